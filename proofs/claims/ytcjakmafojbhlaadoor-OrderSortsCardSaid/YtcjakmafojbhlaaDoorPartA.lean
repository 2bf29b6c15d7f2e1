/-
  What a call leaves as it was: every block but those of a set; and small laws about cells behind new blocks.
  A REGION THAT DRAWS ITS ORDER, by what each operation leaves in its slot: if every operation leaves what is said of it whatever came before it apart from those that it waits for, then in the end all slots hold what is said, whatever the order.
  The number of nodes of a term, up to a bound: package term's Size (a budget that a closure spends) and the reference's Count.
  Valid terms: package term's isVar, isValid, areValid, Valid and the reference's node, nodes, Valid tell whether a term is valid.
  Every node of a term is valid: areValid and the reference's nodes; a term is valid: the two Valids.
  identical of package term and of the reference; the two Sames.
  The two Sames, and the law's same, tell whether two terms are valid and the same.
  A term rebuilt with something in place of each variable: package term's rebuilt, for whatever function it is handed.
  The operations of a region, one law for each kind.
  REGIONS BY WHAT THE SLOTS HOLD: in the order of the text a list of slots with what they hold, that grows at its head; in any order, what holds in the end; loops that count.
-/
import Derived.Test.YtcjakmafojbhlaaDoorRows
import Derived.Test.YtcjakmafojbhlaaDoorForest
import Derived.Laws.AppendOwn
import Derived.Deep.Draws
import Derived.Deep.QuietTactic
import Derived.BigQuiet
import Derived.Laws.EntriesVeiled
import Derived.Lib.SmallJoins
import Derived.Orders
import Derived.Deep.RegionHeld3
import Derived.StillTailTactics
import Derived.Laws.MakeOwn
import Derived.IntWalk
import Derived.LoopN
namespace Go.Proofs.YtcjakmafojbhlaaDoor
set_option linter.unusedVariables false
set_option linter.unusedSimpArgs false
open Go.RowKit

structure Only (X : Nat → Prop) (w w' : World) : Prop where
  os : w'.os = w.os
  tape : w'.tape = w.tape
  output : w'.output = w.output
  size : w.heap.size ≤ w'.heap.size
  block : ∀ k, k < w.heap.size → ¬ X k → w'.heap[k]? = w.heap[k]?
theorem Only.refl (X : Nat → Prop) (w : World) : Only X w w := ⟨rfl, rfl, rfl, Nat.le_refl _, fun _ _ _ => rfl⟩
theorem Only.trans {X : Nat → Prop} {a b c : World} (h : Only X a b) (k : Only X b c) : Only X a c :=
  ⟨k.os.trans h.os, k.tape.trans h.tape, k.output.trans h.output, Nat.le_trans h.size k.size, fun i hi hx => (k.block i (Nat.lt_of_lt_of_le hi h.size) hx).trans (h.block i hi hx)⟩
theorem Only.of_below {X : Nat → Prop} {w w' : World} (h : Below w.heap.size w w') : Only X w w' := ⟨h.os, h.tape, h.output, h.size, fun k hk _ => h.block k hk⟩
theorem Only.below {X : Nat → Prop} {w w' : World} {B : Nat} (h : Only X w w') (hB : B ≤ w.heap.size) (hX : ∀ k, X k → B ≤ k) : Below B w w' :=
  ⟨h.os, h.tape, h.output, h.size, fun k hk => h.block k (by omega) (fun hx => by have := hX k hx; omega)⟩
theorem Only.alloc {X : Nat → Prop} {a w : World} (h : Only X a w) (o : Obj) : Only X a (w.alloc o) :=
  h.trans (Only.of_below ((Below.refl _ w).alloc (Nat.le_refl _) o))
theorem Only.setCell {X : Nat → Prop} {a w : World} (h : Only X a w) {p : Addr} (hp : X p.block) (u : Value) : Only X a (w.setCell p u) :=
  h.trans ⟨rfl, rfl, rfl, by simp [World.setCell], fun k hk hx => Below.heap_setCell _ _ _ _ (fun e => hx (e ▸ hp))⟩
theorem Only.drew {X : Nat → Prop} {a w : World} (h : Only X a w) : Only X a w.drew := ⟨h.os, h.tape, h.output, h.size, h.block⟩
theorem Only.drewN {X : Nat → Prop} {a w : World} (h : Only X a w) (n : Nat) : Only X a (w.drewN n) := ⟨h.os, h.tape, h.output, h.size, h.block⟩
theorem Only.cell {X : Nat → Prop} {w w' : World} (h : Only X w w') {p : Addr} (hp : p.block < w.heap.size) (hx : ¬ X p.block) : w'.cell? p = w.cell? p := cell_of_block (h.block _ hp hx)
theorem Only.mono {X X' : Nat → Prop} {w w' : World} (h : Only X w w') (hX : ∀ k, X k → X' k) : Only X' w w' := ⟨h.os, h.tape, h.output, h.size, fun k hk hx => h.block k hk fun h => hx (hX k h)⟩
theorem frozen_of_block {w w' : World} {p : Addr} (h : w'.heap[p.block]? = w.heap[p.block]?) : w'.frozen? p = w.frozen? p := by simp [World.frozen?, h]
theorem Only.frozen {X : Nat → Prop} {w w' : World} (h : Only X w w') {p : Addr} (hp : p.block < w.heap.size) (hx : ¬ X p.block) : w'.frozen? p = w.frozen? p := frozen_of_block (h.block _ hp hx)
theorem below_drewN {B : Nat} {a w : World} (h : Below B a w) (n : Nat) : Below B a (w.drewN n) := ⟨h.os, h.tape, h.output, h.size, h.block⟩

/-- A cell that can be read and written. -/
structure CellIs (w : World) (b : Nat) (v : Value) : Prop where
  cell : w.cell? ⟨b, 0, none⟩ = some v
  soft : w.frozen? ⟨b, 0, none⟩ = false
theorem CellIs.lt {w : World} {b : Nat} {v : Value} (h : CellIs w b v) : b < w.heap.size := World.block_lt_of_cell? w _ h.cell
theorem CellIs.only {X : Nat → Prop} {w w' : World} {b : Nat} {v : Value} (h : CellIs w b v) (ho : Only X w w') (hx : ¬ X b) : CellIs w' b v :=
  ⟨(ho.cell (p := ⟨b, 0, none⟩) h.lt hx).trans h.cell, (ho.frozen (p := ⟨b, 0, none⟩) h.lt hx).trans h.soft⟩
theorem CellIs.below {w w' : World} {b : Nat} {v : Value} (h : CellIs w b v) {B : Nat} (ho : Below B w w') (hb : b < B) : CellIs w' b v :=
  ⟨(cell_of_block (ho.block b hb)).trans h.cell, (frozen_of_block (p := ⟨b, 0, none⟩) (ho.block b hb)).trans h.soft⟩
theorem CellIs.alloc {w : World} {b : Nat} {v : Value} (h : CellIs w b v) (o : Obj) : CellIs (w.alloc o) b v := h.below ((Below.refl w.heap.size w).alloc (Nat.le_refl _) o) h.lt
theorem CellIs.set {w : World} {b : Nat} {v : Value} (h : CellIs w b v) (u : Value) : CellIs (w.setCell ⟨b, 0, none⟩ u) b u :=
  ⟨World.cell?_setCell_same' _ _ _ (by rw [h.cell]; rfl), by rw [World.frozen?_setCell]; exact h.soft⟩
theorem CellIs.other {w : World} {b b' : Nat} {v : Value} (h : CellIs w b v) (hne : b ≠ b') (i : Nat) (u : Value) : CellIs (w.setCell ⟨b', i, none⟩ u) b v :=
  ⟨(cell_of_block (p := ⟨b, 0, none⟩) (Below.heap_setCell w ⟨b', i, none⟩ u b hne)).trans h.cell, by rw [World.frozen?_setCell]; exact h.soft⟩
theorem ArgsIn.only {X : Nat → Prop} {w w' : World} {n : Nat} {A : Option Addr} {F : Fo} {S : Nat → Prop} (h : ArgsIn S w A n F) (ho : Only X w w') (hS : ∀ b, S b → b < w.heap.size ∧ ¬ X b) : ArgsIn S w' A n F :=
  h.keep fun b hb => ho.block b (hS b hb).1 (hS b hb).2

theorem alloc_new (w : World) (o : Obj) : (w.alloc o).heap[w.heap.size]? = some o := heap_alloc_new w o
theorem CellIs.new (w : World) (v : Value) (t : TypeId) : CellIs (w.alloc (.cells #[v] t)) w.heap.size v := by
  have h := alloc_new w (.cells #[v] t)
  exact ⟨by rw [cell_of_row _ _ _ _ _ _ h]; rfl, by unfold World.frozen?; rw [h]; rfl⟩
theorem CellIs.new' (w : World) (v : Value) (t : TypeId) (b : Nat) (hb : w.heap.size = b) : CellIs (w.alloc (.cells #[v] t)) b v := by subst hb; exact CellIs.new w v t
/-- Cells that lie in a row. -/
def CellsAt (w : World) (b o : Nat) (cs : List Value) : Prop := ∀ j u, cs[j]? = some u → w.cell? ⟨b, o + j, none⟩ = some u
theorem CellsAt.below {w w' : World} {b o : Nat} {cs : List Value} (h : CellsAt w b o cs) {B : Nat} (hb : Below B w w') (hlt : b < B) : CellsAt w' b o cs := fun j u hj => (cell_of_block (p := ⟨b, o + j, none⟩) (hb.block b hlt)).trans (h j u hj)
/-- A term that lies in a block of its own. -/
structure TermAt (w : World) (b : Nat) (p : Pay) (A : Option Addr) (n c : Nat) : Prop where
  kind : w.cell? ⟨b, 0, none⟩ = some (.int .i64 p.1)
  num : w.cell? ⟨b, 1, none⟩ = some (.int .i64 p.2.1)
  name : w.cell? ⟨b, 2, none⟩ = some (.string p.2.2)
  args : w.cell? ⟨b, 3, none⟩ = some (.slice A n c)
theorem TermAt.below {w w' : World} {b : Nat} {p : Pay} {A : Option Addr} {n c : Nat} (h : TermAt w b p A n c) {B : Nat} (hb : Below B w w') (hlt : b < B) : TermAt w' b p A n c :=
  ⟨(cell_of_block (p := ⟨b, 0, none⟩) (hb.block b hlt)).trans h.kind, (cell_of_block (p := ⟨b, 1, none⟩) (hb.block b hlt)).trans h.num, (cell_of_block (p := ⟨b, 2, none⟩) (hb.block b hlt)).trans h.name, (cell_of_block (p := ⟨b, 3, none⟩) (hb.block b hlt)).trans h.args⟩
theorem TermAt.only {X : Nat → Prop} {w w' : World} {b : Nat} {p : Pay} {A : Option Addr} {n c : Nat} (h : TermAt w b p A n c) (ho : Only X w w') (hlt : b < w.heap.size) (hx : ¬ X b) : TermAt w' b p A n c :=
  ⟨(ho.cell (p := ⟨b, 0, none⟩) hlt hx).trans h.kind, (ho.cell (p := ⟨b, 1, none⟩) hlt hx).trans h.num, (ho.cell (p := ⟨b, 2, none⟩) hlt hx).trans h.name, (ho.cell (p := ⟨b, 3, none⟩) hlt hx).trans h.args⟩
theorem TermAt.new (w : World) (p : Pay) (A : Option Addr) (n c : Nat) (t : TypeId) : TermAt (w.alloc (.cells #[.int .i64 p.1, .int .i64 p.2.1, .string p.2.2, .slice A n c] t)) w.heap.size p A n c := by
  have h := alloc_new w (.cells #[.int .i64 p.1, .int .i64 p.2.1, .string p.2.2, .slice A n c] t)
  exact ⟨by rw [cell_of_row _ _ _ _ _ _ h]; rfl, by rw [cell_of_row _ _ _ _ _ _ h]; rfl, by rw [cell_of_row _ _ _ _ _ _ h]; rfl, by rw [cell_of_row _ _ _ _ _ _ h]; rfl⟩
end Go.Proofs.YtcjakmafojbhlaaDoor
namespace Go.Proofs.YtcjakmafojbhlaaDoor
set_option linter.unusedVariables false
set_option linter.unusedSimpArgs false
open Go.RowKit

/-- A row of numbers. -/
structure ListIn (w : World) (A : Option Addr) (n : Nat) (L : List Int) : Prop where
  len : L.length = n
  row : 0 < n → ∃ b o, A = some ⟨b, o, none⟩ ∧ b < w.heap.size ∧ ∀ j z, L[j]? = some z → w.cell? ⟨b, o + j, none⟩ = some (.int .i64 z)
theorem ListIn.below {w w' : World} {A : Option Addr} {n : Nat} {L : List Int} (h : ListIn w A n L) (hb : Below w.heap.size w w') : ListIn w' A n L :=
  ⟨h.len, fun hn => by
    obtain ⟨b, o, e, hlt, hc⟩ := h.row hn
    exact ⟨b, o, e, Nat.lt_of_lt_of_le hlt hb.size, fun j z hz => (cell_of_block (p := ⟨b, o + j, none⟩) (hb.block _ hlt)).trans (hc j z hz)⟩⟩
/-- The table of the kinds' places. -/
def Tabs (w : World) : Prop := Lib.TabIs Tryd.prog w "hornbeam/order.places" .i64 [0, 1, 2, 3]
theorem lPlaces : Tryd.prog.globalNamed "hornbeam/order.places" = some 0 := by kernel_rfl
theorem Tabs.below {w w' : World} (h : Tabs w) (hb : Below w.heap.size w w') : Tabs w' := Go.Joins.tab_stays lPlaces h hb (Nat.le_refl _)
/-- Anything else that stays. -/
structure Pd where
  R : Value → World → Prop
  keep : ∀ v w w', R v w → Below w.heap.size w w' → R v w'
/-- What a slot holds. -/
inductive Kd where
  | val (v : Value)
  | term (p : Pay) (l : Fo)
  | row (F : Fo)
  | ints (L : List Int)
  | ptrI (n : Int)
  | ptrS (s : ByteArray)
  | ptrR (F : Fo)
  | ptrT (p : Pay) (l : Fo)
  | rowErr (F : Fo) (e : Int)
  | tabs
  | sat (K : Pd)
  | any
def Kd.R : Kd → Value → World → Prop
  | .val u, v, _ => v = u
  | .term p l, v, w => ∃ A c, v = tv p A (Tm.len l) c ∧ ArgsB w w.heap.size A (Tm.len l) l
  | .row F, v, w => ∃ A c, v = .slice A (Tm.len F) c ∧ ArgsB w w.heap.size A (Tm.len F) F
  | .ints L, v, w => ∃ A c, v = .slice A L.length c ∧ ListIn w A L.length L
  | .ptrI n, v, w => ∃ a : Addr, v = .pointer (some a) ∧ a.block < w.heap.size ∧ w.cell? a = some (.int .i64 n)
  | .ptrS s, v, w => ∃ a : Addr, v = .pointer (some a) ∧ a.block < w.heap.size ∧ w.cell? a = some (.string s)
  | .ptrR F, v, w => ∃ (a : Addr) (A : Option Addr) (c : Nat), v = .pointer (some a) ∧ a.block < w.heap.size ∧ w.cell? a = some (.slice A (Tm.len F) c) ∧ ArgsB w w.heap.size A (Tm.len F) F
  | .ptrT p l, v, w => ∃ b o A c, v = .pointer (some ⟨b, o, none⟩) ∧ b < w.heap.size ∧ NodeAt (fun b => b < w.heap.size) w b o p l A c
  | .rowErr F e, v, w => ∃ A c, v = .tuple #[.slice A (Tm.len F) c, .int .i64 e] ∧ ArgsB w w.heap.size A (Tm.len F) F
  | .tabs, _, w => Tabs w
  | .sat K, v, w => K.R v w
  | .any, _, _ => True
theorem NodeAt.keep {S S' : Nat → Prop} {w w' : World} {b o : Nat} {p : Pay} {l : Fo} {A : Option Addr} {c : Nat} (h : NodeAt S w b o p l A c) (hb : w'.heap[b]? = w.heap[b]?) (hk : ∀ b, S b → w'.heap[b]? = w.heap[b]?) (hS : ∀ b, S b → S' b) : NodeAt S' w' b o p l A c :=
  ⟨(cell_of_block (p := ⟨b, o, none⟩) hb).trans h.kind, (cell_of_block (p := ⟨b, o + 1, none⟩) hb).trans h.num, (cell_of_block (p := ⟨b, o + 2, none⟩) hb).trans h.name, (cell_of_block (p := ⟨b, o + 3, none⟩) hb).trans h.args, (h.inn.keep hk).mono hS⟩
theorem Kd.keep {k : Kd} {v : Value} {w w' : World} (h : k.R v w) (hb : Below w.heap.size w w') : k.R v w' := by
  cases k with
  | val u => exact h
  | term p l => obtain ⟨A, c, e, ha⟩ := h; exact ⟨A, c, e, (ha.below hb (Nat.le_refl _)).up hb.size⟩
  | row F => obtain ⟨A, c, e, ha⟩ := h; exact ⟨A, c, e, (ha.below hb (Nat.le_refl _)).up hb.size⟩
  | ints L => obtain ⟨A, c, e, ha⟩ := h; exact ⟨A, c, e, ha.below hb⟩
  | ptrI n => obtain ⟨a, e, hlt, hc⟩ := h; exact ⟨a, e, Nat.lt_of_lt_of_le hlt hb.size, (cell_of_block (hb.block _ hlt)).trans hc⟩
  | ptrS n => obtain ⟨a, e, hlt, hc⟩ := h; exact ⟨a, e, Nat.lt_of_lt_of_le hlt hb.size, (cell_of_block (hb.block _ hlt)).trans hc⟩
  | ptrR F => obtain ⟨a, A, c, e, hlt, hc, ha⟩ := h; exact ⟨a, A, c, e, Nat.lt_of_lt_of_le hlt hb.size, (cell_of_block (hb.block _ hlt)).trans hc, (ha.below hb (Nat.le_refl _)).up hb.size⟩
  | ptrT p l =>
    obtain ⟨b, o, A, c, e, hlt, hn⟩ := h
    exact ⟨b, o, A, c, e, Nat.lt_of_lt_of_le hlt hb.size, hn.keep (hb.block _ hlt) (fun b' (h' : b' < w.heap.size) => hb.block _ h') (fun b' (h' : b' < w.heap.size) => Nat.lt_of_lt_of_le h' hb.size)⟩
  | rowErr F x => obtain ⟨A, c, e, ha⟩ := h; exact ⟨A, c, e, (ha.below hb (Nat.le_refl _)).up hb.size⟩
  | tabs => exact Tabs.below h hb
  | sat K => exact K.keep _ _ _ h hb
  | any => trivial

section
variable (P : Program) (ops : Array Oper) (Q : Exit → Act → World → Prop) (E : Nat → Kd) (D : Nat → Nat) (base : Nat → Option Kd) (N : Nat)

/-- What operation i may build on. -/
structure Ctx (i : Nat) (a : Act) (w : World) : Prop where
  size : a.tmps.size = N
  base : ∀ t k, base t = some k → k.R (a.tmps.getD t undef) w
  deps : ∀ j o, ops[i]? = some o → j < i → (o.after.any fun e => e.on == j) = true → (E j).R (a.tmps.getD (D j) undef) w
/-- Operation i leaves what is said. -/
def Step (i : Nat) : Prop := ∀ o, ops[i]? = some o → ∀ a w, Ctx ops E D base N i a w → ∀ K : Act → World → Prop, (∀ v w', (E i).R v w' → Below w.heap.size w w' → K (a.put o.dst v) w') → o.wp P a w K Q
/-- The state behind the operations that have come up. -/
structure Stt (w0 : World) (listed : Array Bool) (a : Act) (w : World) : Prop where
  size : a.tmps.size = N
  defers : a.defers = []
  world : Below w0.heap.size w0 w
  base : ∀ t k, base t = some k → k.R (a.tmps.getD t undef) w
  done : ∀ j, j < ops.size → listed.getD j false = true → (E j).R (a.tmps.getD (D j) undef) w

/-- An operation waits for none behind it, is unguarded or guarded by one that is true, and has its own slot. -/
def goodOp (tru : Nat → Bool) (i : Nat) (o : Oper) : Bool :=
  (o.after.all fun e => decide (e.on < i) && Region.binds .any e) && (match o.guard with | none => true | some (g, b) => b && tru g && (o.after.any fun e => e.on == g)) && (o.dst == some (D i)) && decide (D i < N) && (base (D i)).isNone
def Kd.isTrue : Kd → Bool
  | .val (.bool true) => true
  | _ => false
theorem Kd.isTrue_spec {k : Kd} (h : k.isTrue = true) : k = .val (.bool true) := by
  unfold Kd.isTrue at h
  split at h
  · rfl
  · cases h
def cnt (n : Nat) (listed : Array Bool) : Nat := (List.range n).countP fun j => !listed.getD j true
end
theorem countP_lt {p q : Nat → Bool} : ∀ (l : List Nat), (∀ x ∈ l, q x = true → p x = true) → ∀ i ∈ l, p i = true → q i = false → l.countP q < l.countP p
  | [], _, _, hi, _, _ => by cases hi
  | x :: xs, hqp, i, hi, hp, hq => by
    rw [List.countP_cons, List.countP_cons]
    have hle : xs.countP q ≤ xs.countP p := List.countP_mono_left fun y hy => hqp y (List.mem_cons_of_mem _ hy)
    rcases List.mem_cons.1 hi with rfl | hi'
    · rw [hp, hq]; simp; omega
    · have := countP_lt xs (fun y hy => hqp y (List.mem_cons_of_mem _ hy)) i hi' hp hq
      have h1 := hqp x (List.mem_cons_self ..)
      cases hx : q x
      · simp; omega
      · rw [h1 hx]; simp; omega
section
variable {P : Program} {ops : Array Oper} {Q : Exit → Act → World → Prop} {E : Nat → Kd} {D : Nat → Nat} {base : Nat → Option Kd} {N : Nat}

theorem getD_true_of_lt {listed : Array Bool} {j : Nat} (h : j < listed.size) : listed.getD j true = listed.getD j false := by simp [h]
theorem wpAny_steps (hop : ∀ i o, ops[i]? = some o → goodOp D base N (fun g => (E g).isTrue) i o = true) (hD : ∀ i j, i < ops.size → j < ops.size → D i = D j → i = j) (hs : ∀ i, i < ops.size → Step P ops Q E D base N i)
    (w0 : World) (hQ : ∀ listed a w, (∀ j, j < ops.size → listed.getD j false = true) → Stt ops E D base N w0 listed a w → Q .normal a w) :
    ∀ (fuel : Nat) (listed : Array Bool) (a : Act) (w : World), cnt ops.size listed ≤ fuel → listed.size = ops.size → Stt ops E D base N w0 listed a w → wpAny P .any ops Q fuel listed a w := by
  have hall : ∀ listed : Array Bool, listed.size = ops.size → Region.ready .any ops listed = [] → ∀ j, j < ops.size → listed.getD j false = true := by
    intro listed hl hr j
    induction j using Nat.strongRecOn with
    | ind j ih =>
      intro hj
      cases hb : listed.getD j false with
      | true => rfl
      | false =>
        exfalso
        have ho : ops[j]? = some ops[j] := Array.getElem?_eq_getElem hj
        have hm : j ∈ Region.ready .any ops listed := by
          refine mem_ready.2 ⟨by rw [getD_true_of_lt (by omega)]; exact hb, ops[j], ho, fun e he hbind => ?_⟩
          have hg := hop j _ ho
          unfold goodOp at hg
          simp only [Bool.and_eq_true] at hg
          have h1 := Array.all_eq_true'.1 hg.1.1.1.1 e he
          rw [Bool.and_eq_true, decide_eq_true_eq] at h1
          exact ih e.on h1.1 (Nat.lt_trans h1.1 hj)
        rw [hr] at hm
        cases hm
  intro fuel
  induction fuel with
  | zero =>
    intro listed a w hc hl st
    have hr : Region.ready .any ops listed = [] := by
      cases hr : Region.ready .any ops listed with
      | nil => rfl
      | cons i rest =>
        exfalso
        have hm : i ∈ Region.ready .any ops listed := by rw [hr]; exact List.mem_cons_self ..
        obtain ⟨hun, o, ho, _⟩ := mem_ready.1 hm
        have hlt : i < ops.size := (Array.getElem?_eq_some_iff.1 ho).1
        have : 0 < (List.range ops.size).countP fun j => !listed.getD j true := List.countP_pos_iff.2 ⟨i, List.mem_range.2 hlt, by simp only [hun]; rfl⟩
        unfold cnt at hc
        omega
    exact ⟨hr, hQ listed a w (hall listed hl hr) st⟩
  | succ fuel ih =>
    intro listed a w hc hl st
    refine ⟨fun hr => hQ listed a w (hall listed hl hr) st, fun i hi => ?_⟩
    obtain ⟨hun, o, ho, hdep⟩ := mem_ready.1 hi
    have hlt : i < ops.size := (Array.getElem?_eq_some_iff.1 ho).1
    have hg := hop i o ho
    unfold goodOp at hg
    simp only [Bool.and_eq_true, decide_eq_true_eq, beq_iff_eq] at hg
    obtain ⟨⟨⟨⟨hafter, hguard⟩, hdst⟩, hDN⟩, hbase⟩ := hg
    have hon : ∀ e ∈ o.after, e.on < i ∧ Region.binds .any e = true := fun e he => by
      have h1 := Array.all_eq_true'.1 hafter e he
      rw [Bool.and_eq_true, decide_eq_true_eq] at h1
      exact h1
    have hdone : ∀ j, (o.after.any fun e => e.on == j) = true → (E j).R (a.tmps.getD (D j) undef) w := by
      intro j hj
      obtain ⟨e, he, hej⟩ := Array.any_eq_true'.1 hj
      have : e.on = j := by simpa using hej
      subst this
      exact st.done e.on (by have := (hon e he).1; omega) (hdep e he (hon e he).2)
    have hw : Region.wanted o (yielded ops a.tmps) = true := by
      unfold Region.wanted
      cases hgd : o.guard with
      | none => rfl
      | some gb =>
        obtain ⟨g, b⟩ := gb
        rw [hgd] at hguard
        simp only [Bool.and_eq_true] at hguard
        obtain ⟨⟨rfl, htru⟩, hga⟩ := hguard
        have hv := hdone g hga
        rw [Kd.isTrue_spec htru] at hv
        have hv' : a.tmps.getD (D g) undef = .bool true := hv
        obtain ⟨e, he, hej⟩ := Array.any_eq_true'.1 hga
        have hge : e.on = g := by simpa using hej
        have hgl : g < ops.size := by have := (hon e he).1; omega
        have hgo : ops[g]? = some ops[g] := Array.getElem?_eq_getElem hgl
        have hgg := hop g _ hgo
        unfold goodOp at hgg
        simp only [Bool.and_eq_true, decide_eq_true_eq, beq_iff_eq] at hgg
        have hgd2 : (ops[g]?).bind (·.dst) = some (D g) := by rw [hgo]; exact hgg.1.1.2
        have hlt2 : D g < a.tmps.size := by rw [st.size]; exact hgg.1.2
        have ht : a.tmps[D g]? = some (.bool true) := by
          rw [Array.getElem?_eq_getElem hlt2]
          have : a.tmps.getD (D g) undef = a.tmps[D g] := by simp [hlt2]
          rw [← this, hv']
        have hy : yielded ops a.tmps g = some true := by
          unfold yielded
          rw [hgd2]
          simp only [Option.bind_some, ht]
        simp only [hy]
        rfl
    unfold wpOp
    simp only [ho, hw, if_true]
    refine .inl (hs i hlt o ho a w ⟨st.size, st.base, fun j o' ho' _ hj => by rw [ho] at ho'; cases ho'; exact hdone j hj⟩ _ fun v w' hv hb => ?_)
    have hil : i < listed.size := by omega
    refine ih _ _ _ ?_ (by simpa using hl) ?_
    · have : cnt ops.size (listed.setIfInBounds i true) < cnt ops.size listed := by
        unfold cnt
        refine countP_lt _ (fun x _ hx => ?_) i (List.mem_range.2 hlt) (by simp only [hun]; rfl) (by simp [hil])
        by_cases hxi : i = x
        · subst hxi
          simp [hil] at hx
        · rw [getD_set_ne true hxi] at hx
          exact hx
      omega
    · rw [hdst]
      have hDa : D i < a.tmps.size := by rw [st.size]; exact hDN
      have hne : ∀ t, t ≠ D i → (a.put (some (D i)) v).tmps.getD t undef = a.tmps.getD t undef := fun t ht => by
        show (a.tmps.setIfInBounds (D i) v).getD t undef = _
        simp [Array.getElem?_setIfInBounds_ne (Ne.symm ht)]
      have hself : (a.put (some (D i)) v).tmps.getD (D i) undef = v := by
        show (a.tmps.setIfInBounds (D i) v).getD (D i) undef = _
        simp [hDa]
      refine ⟨by show (a.tmps.setIfInBounds (D i) v).size = N; simpa using st.size, st.defers, st.world.trans (hb.mono st.world.size), fun t k hk => ?_, fun j hj hjl => ?_⟩
      · rw [hne t (fun e => by subst e; rw [hk] at hbase; cases hbase)]
        exact Kd.keep (st.base t k hk) hb
      · by_cases hji : j = i
        · subst hji
          rw [hself]
          exact hv
        · rw [hne (D j) (fun e => hji (hD j i hj hlt e))]
          rw [getD_set_ne false (Ne.symm hji)] at hjl
          exact Kd.keep (st.done j hj hjl) hb

/-- The region. -/
theorem region_steps {id : Nat} (hm : P.follows .mixedOrders = true) (hop : ∀ i o, ops[i]? = some o → goodOp D base N (fun g => (E g).isTrue) i o = true) (hD : ∀ i j, i < ops.size → j < ops.size → D i = D j → i = j) (hs : ∀ i, i < ops.size → Step P ops Q E D base N i)
    {a : Act} {w : World} (hsize : a.tmps.size = N) (hdef : a.defers = []) (hbase : ∀ t k, base t = some k → k.R (a.tmps.getD t undef) w)
    (hQ : ∀ a' w', a'.tmps.size = N → a'.defers = [] → Below w.heap.size w w' → (∀ j, j < ops.size → (E j).R (a'.tmps.getD (D j) undef) w') → Q .normal a' w') : (Code.region id ops true).wp P Q a w := by
  refine wp_region_any hm (wpAny_steps hop hD hs w (fun listed a' w' hl st => hQ a' w' st.size st.defers st.world fun j hj => st.done j hj (hl j hj)) ops.size _ a _ ?_ (by simp) ?_)
  · unfold cnt
    exact Nat.le_trans (List.countP_le_length) (by simp)
  · refine ⟨hsize, hdef, ⟨rfl, rfl, rfl, Nat.le_refl _, fun _ _ => rfl⟩, fun t k hk => Kd.keep (hbase t k hk) ⟨rfl, rfl, rfl, Nat.le_refl _, fun _ _ => rfl⟩, fun j hj hl => ?_⟩
    simp [hj] at hl
end
end Go.Proofs.YtcjakmafojbhlaaDoor
namespace Go.Proofs.YtcjakmafojbhlaaDoor
set_option linter.unusedVariables false
set_option linter.unusedSimpArgs false
open Go.RowKit

theorem enters_size : ∀ (args : Array Value) (w : World), (callFunc 72 args).run Tryd.prog w = .ok (.enter 72 args) w := fun args w => by kernel_rfl


theorem below_lt {w w' : World} {b : Nat} (h : b < w.heap.size) (hs : w.heap.size ≤ w'.heap.size) : b < w'.heap.size := Nat.lt_of_lt_of_le h hs

set_option maxHeartbeats 2000000 in
theorem count_up (m : Nat) (bb cb : Nat) (hne : bb ≠ cb) : ∀ (p : Pay) (l : Fo) (A : Option Addr) (c bud B : Nat) (w : World), Tm.size l < m → ArgsB w B A (Tm.len l) l → B ≤ bb → B ≤ cb → B ≤ w.heap.size → 1 ≤ bud → bud ≤ 2001 →
    CellIs w bb (.int .i64 bud) → CellIs w cb (.func (.func 72) #[] #[.pointer (some ⟨bb, 0, none⟩), .pointer (some ⟨cb, 0, none⟩)]) →
    Calls Tryd.prog 72 #[tv p A (Tm.len l) c, .pointer (some ⟨bb, 0, none⟩), .pointer (some ⟨cb, 0, none⟩)] w fun e w' => e = .returned (.tuple #[]) ∧ Only (· = bb) w w' ∧ CellIs w' bb (.int .i64 ((bud - (1 + Tm.size l) : Nat) : Int)) := by
  induction m with
  | zero => intro p l A c bud B w hm; omega
  | succ m ih =>
    intro p l A c bud B w hm hA hBb hBc hBw h1 h2 hb hc
    obtain ⟨n, hn⟩ : ∃ n, n = Tm.len l := ⟨_, rfl⟩
    rw [← hn] at hA ⊢
    have hb' := hb.alloc (.cells #[.int .i64 p.1, .int .i64 p.2.1, .string p.2.2, .slice A n c] 24)
    have hq1 := hb'.cell
    have hq2 := hb'.soft
    have hbl := hb.lt
    have hcl := hc.lt
    have hnn : n ≤ 9223372036854775807 := hA.hi
    have HN := Lib.hid hn
    have HA := Lib.hid hA
    have HC := Lib.hid hc
    have HB := Lib.hid hb
    have HM := Lib.hid hm
    have IH := Lib.hid ih
    have eg := enters_size
    clear hn hA hc ih hb' hb hm
    go_enter Tryd.func72, Tryd.ntmps72
    go_wp2_with fail
    clear hq1 hq2
    go_loopw [11] (fun u wr => ∃ k : Nat, k ≤ n ∧ u = .int .i64 k ∧ Only (· = bb) w wr ∧ CellIs wr bb (.int .i64 ((bud - 1 - (Tm.size l - Tm.size (Tm.dropF l k)) : Nat) : Int))) (fun u _ => n - (intOf u).toNat)
    case atStart =>
      refine ⟨0, Nat.zero_le _, rfl, ((Only.refl (· = bb) w).setCell (p := ⟨bb, 0, none⟩) rfl _).alloc _, ?_⟩
      rw [Tm.drop_zero, Nat.sub_self, Nat.sub_zero, Int.ofNat_sub h1]
      exact (HB.out.set _).alloc _
    case round =>
      obtain ⟨k, hk, rfl, hon, hbk⟩ := hrel
      obtain ⟨g, hg⟩ : ∃ g, g = bud - 1 - (Tm.size l - Tm.size (Tm.dropF l k)) := ⟨_, rfl⟩
      rw [← hg] at hbk
      have HO := Lib.hid hon
      have HG := Lib.hid hg
      have HK := Lib.hid hbk
      have hwr := hon.size
      clear hon hg
      by_cases hlt : k < n
      · obtain ⟨b, o, p1, l1, r1, A1, c1, rfl, hbB, hd, hnode⟩ := HA.out.at hlt
        have hbw : b < w.heap.size := Nat.lt_of_lt_of_le hbB hBw
        have hbx : ¬ b = bb := by have : b < B := hbB; omega
        have y0 := (HO.out.cell (p := ⟨b, o + k * 4, none⟩) hbw hbx).trans hnode.kind
        have y1 := (HO.out.cell (p := ⟨b, o + k * 4 + 1, none⟩) hbw hbx).trans hnode.num
        have y2 := (HO.out.cell (p := ⟨b, o + k * 4 + 2, none⟩) hbw hbx).trans hnode.name
        have y3 := (HO.out.cell (p := ⟨b, o + k * 4 + 3, none⟩) hbw hbx).trans hnode.args
        have hq1 := HK.out.cell
        have hgb := HK.out.lt
        have HD := Lib.hid hd
        have HI := Lib.hid hnode.inn
        clear hd hnode hbk
        by_cases hg0 : g = 0
        · subst hg0
          go_wp2_with fail
          refine bodyPost_ret (results_none rfl _ _ _) rfl ?_
          refine ⟨rfl, HO.out.alloc _, ?_⟩
          have e1 : bud - (1 + Tm.size l) = 0 := by have := HG.out; omega
          rw [e1]
          exact HK.out.alloc _
        · have hg1 : ((g : Int) == 0) = false := by simpa using hg0
          have hc1 := (HC.out.only (w' := wr) HO.out (fun e => hne e.symm)).cell
          have hcl' : cb < wr.heap.size := below_lt hcl hwr
          have hs1 : Tm.size l1 + 1 + Tm.size r1 = Tm.size (Tm.dropF l k) := by rw [HD.out]; simp only [Tm.size]; omega
          have hs2 : Tm.size (Tm.dropF l (k + 1)) = Tm.size r1 := by rw [Tm.drop_succ HD.out]
          have hs3 := Tm.size_drop_le l k
          have HS := Lib.hid (And.intro hs1 (And.intro hs2 hs3))
          clear hs1 hs2 hs3
          go_wp2_with fail
          refine (IH.out p1 l1 A1 c1 g B _ (by have := HS.out; have := HM.out; omega) (((HI.out).only HO.out (fun b' (hb' : b' < B) => ⟨by omega, by show ¬ b' = bb; omega⟩)).below ((Below.refl wr.heap.size wr).alloc (Nat.le_refl _) _) (by omega)) hBb hBc (by simp; omega) (by omega) (by have := HG.out; omega) (HK.out.alloc _) ((HC.out.only HO.out (fun e => hne e.symm)).alloc _)).mono ?_
          rintro e w' ⟨rfl, hon2, hbk2⟩
          have HO2 := Lib.hid hon2
          have HK2 := Lib.hid hbk2
          clear hon2 hbk2
          go_wp2_with fail
          refine ⟨⟨k + 1, by omega, by go_num, (HO.out.alloc _).trans HO2.out, ?_⟩, by simp [intOf]; omega⟩
          have := HK2.out
          have e1 : g - (1 + Tm.size l1) = bud - 1 - (Tm.size l - Tm.size (Tm.dropF l (k + 1))) := by have := HS.out; have := HG.out; omega
          rw [e1] at this
          exact this
      · obtain rfl : k = n := by omega
        go_wp2_with fail
        go_end0
        refine ⟨rfl, HO.out, ?_⟩
        have e1 : bud - (1 + Tm.size l) = g := by
          have e2 := HG.out
          rw [show k = Tm.len l from HN.out, Tm.drop_end] at e2
          simp only [Tm.size] at e2
          omega
        rw [e1]
        exact HK.out

set_option maxHeartbeats 1000000 in
theorem size_any (p : Pay) (l : Fo) (A : Option Addr) (c B : Nat) (w : World) (h : ArgsB w B A (Tm.len l) l) (hB : B ≤ w.heap.size) :
    Calls Tryd.prog 56 #[tv p A (Tm.len l) c] w fun e w' => e = .returned (.int .i64 (Tm.sizeB l)) ∧ Below w.heap.size w w' := by
  obtain ⟨n, hn⟩ : ∃ n, n = Tm.len l := ⟨_, rfl⟩
  rw [← hn] at h ⊢
  have HN := Lib.hid hn
  have H := Lib.hid h
  have eg := enters_size
  clear hn h
  go_enter Tryd.func56, Tryd.ntmps56
  go_wp2_with fail
  have h2 := HN.out
  subst h2
  refine (count_up (Tm.size l + 1) (w.heap.size + 1) (w.heap.size + 2) (by omega) p l A c 2001 B _ (by omega) ?_ (by omega) (by omega) ?_ (by omega) (by omega) ?_ ?_).mono ?_
  · exact H.out.below (Only.below (X := fun _ => False) ((((Only.refl _ w).alloc _).alloc _).alloc _) (Nat.le_refl _) (fun _ h => h.elim)) hB
  · simp; omega
  · exact CellIs.alloc (CellIs.new' _ _ _ _ (by simp)) _
  · exact CellIs.new' _ _ _ _ (by simp)
  rintro e w' ⟨rfl, hon, hk⟩
  have HO := Lib.hid hon
  have hc := hk.cell
  have hcl := hk.lt
  clear hon hk
  go_wp2_with fail
  go_ret
  refine ⟨?_, (Only.below (X := fun _ => False) ((((Only.refl _ w).alloc _).alloc _).alloc _) (Nat.le_refl _) (fun _ h => h.elim)).trans (HO.out.below (by simp; omega) (fun k e => by omega))⟩
  exact congrArg (fun z : Int => Ending.returned (.int .i64 z)) (by unfold Tm.sizeB; omega)

set_option maxHeartbeats 2000000 in
theorem rcount_up (m : Nat) : ∀ (p : Pay) (l : Fo) (A : Option Addr) (c most B : Nat) (w : World), Tm.size l < m → ArgsB w B A (Tm.len l) l → B ≤ w.heap.size → 1 ≤ most → most ≤ 2001 →
    Calls Tryd.prog 70 #[tv p A (Tm.len l) c, .int .i64 most] w fun e w' => e = .returned (.int .i64 (min (1 + Tm.size l) most : Nat)) ∧ Below w.heap.size w w' := by
  induction m with
  | zero => intro p l A c most B w hm; omega
  | succ m ih =>
    intro p l A c most B w hm hA hBw h1 h2
    obtain ⟨n, hn⟩ : ∃ n, n = Tm.len l := ⟨_, rfl⟩
    rw [← hn] at hA ⊢
    have hnn : n ≤ 9223372036854775807 := hA.hi
    have HN := Lib.hid hn
    have HA := Lib.hid hA
    have HM := Lib.hid hm
    have IH := Lib.hid ih
    clear hn hA ih hm
    go_enter Tryd.func70, Tryd.ntmps70
    go_wp2_with fail
    go_loopw [5, 6] (fun v u wr => ∃ k : Nat, k ≤ n ∧ u = .int .i64 k ∧ v = .int .i64 ((min (1 + (Tm.size l - Tm.size (Tm.dropF l k))) most : Nat) : Int) ∧ w.heap.size < wr.heap.size ∧ TermAt wr w.heap.size p A n c ∧ Below w.heap.size w wr) (fun _ u _ => n - (intOf u).toNat)
    case atStart =>
      exact ⟨0, Nat.zero_le _, rfl, by rw [Tm.drop_zero, Nat.sub_self, Nat.min_eq_left (by omega)]; rfl, by simp, TermAt.new _ _ _ _ _ _, (Below.refl _ _).alloc (Nat.le_refl _) _⟩
    case round =>
      obtain ⟨k, hk, rfl, rfl, hwr, hta, hbl⟩ := hrel
      obtain ⟨g, hg⟩ : ∃ g, g = min (1 + (Tm.size l - Tm.size (Tm.dropF l k))) most := ⟨_, rfl⟩
      rw [← hg]
      have y4 := hta.args
      have HB := Lib.hid hbl
      have HT := Lib.hid hta
      have HG := Lib.hid hg
      have hg1 : 1 ≤ g := by omega
      have hg2 : g ≤ most := by omega
      clear hbl hta hg
      by_cases hlt : k < n
      · by_cases hgm : g < most
        · obtain ⟨b, o, p1, l1, r1, A1, c1, rfl, hbB, hd, hnode⟩ := HA.out.at hlt
          have hbw : b < w.heap.size := Nat.lt_of_lt_of_le hbB hBw
          have y0 := (HB.out.cell (p := ⟨b, o + k * 4, none⟩) hbw).trans hnode.kind
          have y1 := (HB.out.cell (p := ⟨b, o + k * 4 + 1, none⟩) hbw).trans hnode.num
          have y2 := (HB.out.cell (p := ⟨b, o + k * 4 + 2, none⟩) hbw).trans hnode.name
          have y3 := (HB.out.cell (p := ⟨b, o + k * 4 + 3, none⟩) hbw).trans hnode.args
          have HD := Lib.hid hd
          have HI := Lib.hid (hnode.inn.below HB.out hBw)
          clear hd hnode
          have hs1 : Tm.size l1 + 1 + Tm.size r1 = Tm.size (Tm.dropF l k) := by rw [HD.out]; simp only [Tm.size]; omega
          have hs2 : Tm.size (Tm.dropF l (k + 1)) = Tm.size r1 := by rw [Tm.drop_succ HD.out]
          have hs3 := Tm.size_drop_le l k
          have HS := Lib.hid (And.intro hs1 (And.intro hs2 hs3))
          clear hs1 hs2 hs3
          go_wp2_with fail
          rw [← Int.ofNat_sub hg2]
          refine (IH.out p1 l1 A1 c1 (most - g) B _ (by have := HS.out; have := HM.out; omega) HI.out (by omega) (by omega) (by omega)).mono ?_
          rintro e w' ⟨rfl, hb1⟩
          have HB1 := Lib.hid hb1
          have hu : min (1 + Tm.size l1) (most - g) + g ≤ 2001 := by omega
          obtain ⟨u, hu1⟩ : ∃ u, u = min (1 + Tm.size l1) (most - g) := ⟨_, rfl⟩
          rw [← hu1] at hu ⊢
          have HU := Lib.hid hu1
          clear hb1 hu1
          go_wp2_with fail
          refine ⟨⟨k + 1, by omega, by go_num, ?_, by have := HB1.out.size; omega, HT.out.below HB1.out hwr, HB.out.trans (HB1.out.mono HB.out.size)⟩, by simp [intOf]; omega⟩
          have e1 : g + u = min (1 + (Tm.size l - Tm.size (Tm.dropF l (k + 1)))) most := by have := HS.out; have := HG.out; have := HU.out; omega
          rw [← e1]
          go_num
        · go_wp2_with fail
          go_ret
          refine ⟨?_, HB.out⟩
          have e1 : min (1 + Tm.size l) most = g := by have := HG.out; omega
          rw [e1]
          rfl
      · obtain rfl : k = n := by omega
        go_wp2_with fail
        go_ret
        refine ⟨?_, HB.out⟩
        have e2 : min (1 + Tm.size l) most = g := by
          have e2 := HG.out
          rw [show k = Tm.len l from HN.out, Tm.drop_end] at e2
          simpa only [Tm.size, Nat.sub_zero] using e2.symm
        rw [e2]
        rfl

theorem rsize_any (p : Pay) (l : Fo) (A : Option Addr) (c B : Nat) (w : World) (h : ArgsB w B A (Tm.len l) l) (hB : B ≤ w.heap.size) :
    Calls Tryd.prog 54 #[tv p A (Tm.len l) c] w fun e w' => e = .returned (.int .i64 (Tm.sizeB l)) ∧ Below w.heap.size w w' := by
  have C := Lib.hid fun w1 (h1 : ArgsB w1 B A (Tm.len l) l) (h2 : B ≤ w1.heap.size) => rcount_up (Tm.size l + 1) p l A c 2001 B w1 (by omega) h1 h2 (by omega) (by omega)
  obtain ⟨n, hn⟩ : ∃ n, n = Tm.len l := ⟨_, rfl⟩
  rw [← hn] at h C ⊢
  have H := Lib.hid h
  clear hn h
  go_enter Tryd.func54, Tryd.ntmps54
  go_wp2_with fail
  refine (C.out _ ?_ ?_).mono ?_
  · exact H.out.below ((Below.refl w.heap.size w).alloc (Nat.le_refl _) _) hB
  · simp; omega
  rintro e w' ⟨rfl, hb1⟩
  have HB1 := Lib.hid hb1
  clear hb1
  go_wp2_with fail
  go_ret
  exact ⟨rfl, ((Below.refl w.heap.size w).alloc (Nat.le_refl _) _).trans (HB1.out.mono (by simp))⟩
end Go.Proofs.YtcjakmafojbhlaaDoor
namespace Go.Proofs.YtcjakmafojbhlaaDoor
set_option linter.unusedVariables false
set_option linter.unusedSimpArgs false
open Go.RowKit

theorem toList_nil (s : ByteArray) : s.toList = [] ↔ s = ByteArray.empty := by
  rw [ByteArray.toList_eq]
  constructor
  · intro h
    have : s.size = s.data.toList.length := (Array.length_toList (xs := s.data)).symm
    rw [h] at this
    exact ByteArray.size_eq_zero_iff.1 this
  · rintro rfl; rfl
theorem isEmpty_size (s : ByteArray) : s.toList.isEmpty = decide (s = ByteArray.empty) := by
  by_cases h : s = ByteArray.empty
  · rw [(toList_nil s).2 h, decide_eq_true h]; rfl
  · rw [decide_eq_false h]
    cases he : s.toList with
    | nil => exact absurd ((toList_nil s).1 he) h
    | cons _ _ => rfl
theorem nat_zero (n : Nat) : ((n : Int) == 0) = decide (n = 0) := by
  by_cases h : n = 0
  · subst h; rfl
  · rw [decide_eq_false h]; simp; omega

theorem isVar_any (v : Int) (w : World) : Calls Tryd.prog 79 #[.int .i64 v] w fun e w' => e = .returned (.bool (decide (0 ≤ v) && decide (v ≤ 1099511627776))) ∧ w = w' := by
  by_cases h0 : 0 ≤ v
  · rw [decide_eq_true h0]
    go_enter Tryd.func79, Tryd.ntmps79
    go_wp2_with fail
    go_ret
    exact ⟨rfl, rfl⟩
  · rw [decide_eq_false h0]
    go_enter Tryd.func79, Tryd.ntmps79
    go_wp2_with fail
    go_ret
    exact ⟨rfl, rfl⟩

set_option maxHeartbeats 1000000 in
theorem isValid_any (p : Pay) (n c : Nat) (A : Option Addr) (w : World) : Calls Tryd.prog 73 #[tv p A n c] w fun e w' => e = .returned (.bool (Tm.nodeB p n)) ∧ Below w.heap.size w w' := by
  obtain ⟨k, v, s⟩ := p
  by_cases h0 : k = 0
  · subst h0
    have C := Lib.hid (isVar_any v)
    go_enter Tryd.func73, Tryd.ntmps73
    go_wp2_with fail
    go_quiet (fail)
    go_wp2_with fail
    refine (C.out _).mono ?_
    rintro e w' ⟨rfl, rfl⟩
    go_wp2_with fail
    all_goals go_ret
    all_goals refine ⟨?_, below_drewN ((Below.refl w.heap.size w).alloc (Nat.le_refl _) _) _⟩
    all_goals refine congrArg (fun b : Bool => Ending.returned (.bool b)) ?_
    all_goals simp_all [Tm.nodeB, isEmpty_size, nat_zero, toList_nil]
    all_goals try (rw [Bool.eq_iff_iff]; simp only [decide_eq_true_eq, Bool.and_eq_true, beq_iff_eq])
    all_goals (intros; omega)
  by_cases h1 : k = 1
  · subst h1
    go_enter Tryd.func73, Tryd.ntmps73
    go_wp2_with fail
    go_quiet (fail)
    go_wp2_with fail
    all_goals go_ret
    all_goals refine ⟨?_, below_drewN ((Below.refl w.heap.size w).alloc (Nat.le_refl _) _) _⟩
    all_goals refine congrArg (fun b : Bool => Ending.returned (.bool b)) ?_
    all_goals simp_all [Tm.nodeB, isEmpty_size, nat_zero, toList_nil]
    all_goals try (rw [Bool.eq_iff_iff]; simp only [decide_eq_true_eq, Bool.and_eq_true, beq_iff_eq])
    all_goals (intros; omega)
  by_cases h2 : k = 2
  · subst h2
    go_enter Tryd.func73, Tryd.ntmps73
    go_wp2_with fail
    go_quiet (fail)
    go_wp2_with fail
    all_goals go_ret
    all_goals refine ⟨?_, below_drewN ((Below.refl w.heap.size w).alloc (Nat.le_refl _) _) _⟩
    all_goals refine congrArg (fun b : Bool => Ending.returned (.bool b)) ?_
    all_goals simp_all [Tm.nodeB, isEmpty_size, nat_zero, toList_nil]
    all_goals try (rw [Bool.eq_iff_iff]; simp only [decide_eq_true_eq, Bool.and_eq_true, beq_iff_eq])
    all_goals (intros; omega)
  by_cases h3 : k = 3
  · subst h3
    go_enter Tryd.func73, Tryd.ntmps73
    go_wp2_with fail
    go_quiet (fail)
    go_wp2_with fail
    all_goals go_ret
    all_goals refine ⟨?_, below_drewN ((Below.refl w.heap.size w).alloc (Nat.le_refl _) _) _⟩
    all_goals refine congrArg (fun b : Bool => Ending.returned (.bool b)) ?_
    all_goals simp_all [Tm.nodeB, isEmpty_size, nat_zero, toList_nil]
    all_goals try (rw [Bool.eq_iff_iff]; simp only [decide_eq_true_eq, Bool.and_eq_true, beq_iff_eq])
    all_goals (intros; omega)
  · go_enter Tryd.func73, Tryd.ntmps73
    go_wp2_with fail
    go_quiet (fail)
    go_wp2_with fail
    all_goals go_ret
    all_goals refine ⟨?_, below_drewN ((Below.refl w.heap.size w).alloc (Nat.le_refl _) _) _⟩
    all_goals refine congrArg (fun b : Bool => Ending.returned (.bool b)) ?_
    all_goals simp_all [Tm.nodeB, isEmpty_size, nat_zero, toList_nil]
    all_goals try (rw [Bool.eq_iff_iff]; simp only [decide_eq_true_eq, Bool.and_eq_true, beq_iff_eq])
    all_goals (intros; omega)

set_option maxHeartbeats 1000000 in
theorem rnode_any (p : Pay) (n c : Nat) (A : Option Addr) (w : World) : Calls Tryd.prog 71 #[tv p A n c] w fun e w' => e = .returned (.bool (Tm.nodeB p n)) ∧ Below w.heap.size w w' := by
  obtain ⟨k, v, s⟩ := p
  by_cases h0 : k = 0
  · subst h0
    go_enter Tryd.func71, Tryd.ntmps71
    go_wp2_with fail
    all_goals go_ret
    all_goals refine ⟨?_, (Below.refl w.heap.size w).alloc (Nat.le_refl _) _⟩
    all_goals refine congrArg (fun b : Bool => Ending.returned (.bool b)) ?_
    all_goals simp_all [Tm.nodeB, isEmpty_size, nat_zero, toList_nil]
    all_goals try (rw [Bool.eq_iff_iff]; simp only [decide_eq_true_eq, Bool.and_eq_true, beq_iff_eq])
    all_goals (intros; omega)
  by_cases h1 : k = 1
  · subst h1
    go_enter Tryd.func71, Tryd.ntmps71
    go_wp2_with fail
    all_goals go_ret
    all_goals refine ⟨?_, (Below.refl w.heap.size w).alloc (Nat.le_refl _) _⟩
    all_goals refine congrArg (fun b : Bool => Ending.returned (.bool b)) ?_
    all_goals simp_all [Tm.nodeB, isEmpty_size, nat_zero, toList_nil]
    all_goals try (rw [Bool.eq_iff_iff]; simp only [decide_eq_true_eq, Bool.and_eq_true, beq_iff_eq])
    all_goals (intros; omega)
  by_cases h2 : k = 2
  · subst h2
    go_enter Tryd.func71, Tryd.ntmps71
    go_wp2_with fail
    all_goals go_ret
    all_goals refine ⟨?_, (Below.refl w.heap.size w).alloc (Nat.le_refl _) _⟩
    all_goals refine congrArg (fun b : Bool => Ending.returned (.bool b)) ?_
    all_goals simp_all [Tm.nodeB, isEmpty_size, nat_zero, toList_nil]
    all_goals try (rw [Bool.eq_iff_iff]; simp only [decide_eq_true_eq, Bool.and_eq_true, beq_iff_eq])
    all_goals (intros; omega)
  by_cases h3 : k = 3
  · subst h3
    go_enter Tryd.func71, Tryd.ntmps71
    go_wp2_with fail
    all_goals go_ret
    all_goals refine ⟨?_, (Below.refl w.heap.size w).alloc (Nat.le_refl _) _⟩
    all_goals refine congrArg (fun b : Bool => Ending.returned (.bool b)) ?_
    all_goals simp_all [Tm.nodeB, isEmpty_size, nat_zero, toList_nil]
    all_goals try (rw [Bool.eq_iff_iff]; simp only [decide_eq_true_eq, Bool.and_eq_true, beq_iff_eq])
    all_goals (intros; omega)
  · go_enter Tryd.func71, Tryd.ntmps71
    go_wp2_with fail
    all_goals go_ret
    all_goals refine ⟨?_, (Below.refl w.heap.size w).alloc (Nat.le_refl _) _⟩
    all_goals refine congrArg (fun b : Bool => Ending.returned (.bool b)) ?_
    all_goals simp_all [Tm.nodeB, isEmpty_size, nat_zero, toList_nil]
    all_goals try (rw [Bool.eq_iff_iff]; simp only [decide_eq_true_eq, Bool.and_eq_true, beq_iff_eq])
    all_goals (intros; omega)
end Go.Proofs.YtcjakmafojbhlaaDoor
namespace Go.Proofs.YtcjakmafojbhlaaDoor
set_option linter.unusedVariables false
set_option linter.unusedSimpArgs false
open Go.RowKit

set_option maxHeartbeats 2000000 in
theorem areValid_up (m : Nat) : ∀ (p : Pay) (l : Fo) (A : Option Addr) (c B : Nat) (w : World), Tm.size l < m → ArgsB w B A (Tm.len l) l → B ≤ w.heap.size →
    Calls Tryd.prog 57 #[tv p A (Tm.len l) c] w fun e w' => e = .returned (.bool (Tm.goodB p l)) ∧ Below w.heap.size w w' := by
  induction m with
  | zero => intro p l A c B w hm; omega
  | succ m ih =>
    intro p l A c B w hm hA hBw
    have cn := fun w1 : World => isValid_any p (Tm.len l) c A w1
    obtain ⟨n, hn⟩ : ∃ n, n = Tm.len l := ⟨_, rfl⟩
    rw [← hn] at hA cn ⊢
    have hnn : n ≤ 9223372036854775807 := hA.hi
    have HN := Lib.hid hn
    have HA := Lib.hid hA
    have HM := Lib.hid hm
    have IH := Lib.hid ih
    cases hnb : Tm.nodeB p n
    · rw [hnb] at cn
      have CN := Lib.hid cn
      have hres : Tm.goodB p l = false := by unfold Tm.goodB; rw [← HN.out, hnb]; rfl
      rw [hres]
      clear hn hA ih hm cn hnb hres
      go_enter Tryd.func57, Tryd.ntmps57
      go_wp2_with fail
      refine (CN.out _).mono ?_
      rintro e w1 ⟨rfl, hb1⟩
      have HB1 := Lib.hid hb1
      clear hb1
      go_wp2_with fail
      go_ret
      exact ⟨rfl, ((Below.refl w.heap.size w).alloc (Nat.le_refl _) _).trans (HB1.out.mono (by simp))⟩
    rw [hnb] at cn
    have CN := Lib.hid cn
    have hres : Tm.goodB p l = Tm.allB l := by unfold Tm.goodB; rw [← HN.out, hnb]; rfl
    rw [hres]
    clear hn hA ih hm cn hnb hres
    go_enter Tryd.func57, Tryd.ntmps57
    go_wp2_with fail
    refine (CN.out _).mono ?_
    rintro e w1 ⟨rfl, hb1⟩
    have hta : TermAt w1 w.heap.size p A n c := (TermAt.new w p A n c 24).below hb1 (by simp)
    have hwb : Below w.heap.size w w1 := ((Below.refl w.heap.size w).alloc (Nat.le_refl _) _).trans (hb1.mono (by simp))
    have hws : w.heap.size < w1.heap.size := by have := hb1.size; simp at this; omega
    have y4 := hta.args
    have HWB := Lib.hid hwb
    have HT0 := Lib.hid hta
    clear hb1 hta hwb
    go_wp2_with fail
    clear y4
    go_loopw [11] (fun u wr => ∃ k : Nat, k ≤ n ∧ u = .int .i64 k ∧ Tm.allB l = Tm.allB (Tm.dropF l k) ∧ w.heap.size < wr.heap.size ∧ TermAt wr w.heap.size p A n c ∧ Below w.heap.size w wr) (fun u _ => n - (intOf u).toNat)
    case atStart => exact ⟨0, Nat.zero_le _, rfl, by rw [Tm.drop_zero], hws, HT0.out, HWB.out⟩
    case round =>
      obtain ⟨k, hk, rfl, hal, hwr, hta, hbl⟩ := hrel
      have y4 := hta.args
      have HB := Lib.hid hbl
      have HT := Lib.hid hta
      have HL := Lib.hid hal
      clear hbl hta hal
      by_cases hlt : k < n
      · obtain ⟨b, o, p1, l1, r1, A1, c1, rfl, hbB, hd, hnode⟩ := HA.out.at hlt
        have hbw : b < w.heap.size := Nat.lt_of_lt_of_le hbB hBw
        have y0 := (HB.out.cell (p := ⟨b, o + k * 4, none⟩) hbw).trans hnode.kind
        have y1 := (HB.out.cell (p := ⟨b, o + k * 4 + 1, none⟩) hbw).trans hnode.num
        have y2 := (HB.out.cell (p := ⟨b, o + k * 4 + 2, none⟩) hbw).trans hnode.name
        have y3 := (HB.out.cell (p := ⟨b, o + k * 4 + 3, none⟩) hbw).trans hnode.args
        have HD := Lib.hid hd
        have HI := Lib.hid (hnode.inn.below HB.out hBw)
        clear hd hnode
        have hs1 : Tm.size l1 < m := by have e := HD.out; have := Tm.size_drop_le l k; rw [e] at this; simp only [Tm.size] at this; have := HM.out; omega
        have hs2 : Tm.allB l = (Tm.goodB p1 l1 && Tm.allB (Tm.dropF l (k + 1))) := by rw [HL.out, Tm.drop_succ HD.out, HD.out]; rfl
        have HS := Lib.hid hs2
        have C1 := Lib.hid fun (w2 : World) (h2 : ArgsB w2 B A1 (Tm.len l1) l1) (h3 : B ≤ w2.heap.size) => IH.out p1 l1 A1 c1 B w2 hs1 h2 h3
        clear hs1 hs2
        cases hg : Tm.goodB p1 l1
        · rw [hg] at C1 HS
          have hres : Tm.allB l = false := by rw [HS.out]; rfl
          have HR := Lib.hid hres
          clear hg hres
          go_wp2_with fail
          refine (C1.out _ ?_ ?_).mono ?_
          · exact (HI.out.below ((Below.refl wr.heap.size wr).alloc (Nat.le_refl _) _) (by omega))
          · simp; omega
          rintro e w2 ⟨rfl, hb1⟩
          have HB1 := Lib.hid hb1
          clear hb1
          go_wp2_with fail
          go_ret
          exact ⟨by rw [HR.out]; rfl, (HB.out.trans (((Below.refl wr.heap.size wr).alloc (Nat.le_refl _) _).mono HB.out.size)).trans (HB1.out.mono (by have := HB.out.size; simp; omega))⟩
        · rw [hg] at C1 HS
          clear hg
          go_wp2_with fail
          refine (C1.out _ ?_ ?_).mono ?_
          · exact (HI.out.below ((Below.refl wr.heap.size wr).alloc (Nat.le_refl _) _) (by omega))
          · simp; omega
          rintro e w2 ⟨rfl, hb1⟩
          have HB1 := Lib.hid hb1
          clear hb1
          go_wp2_with fail
          exact ⟨⟨k + 1, by omega, by go_num, by rw [HS.out]; rfl, by have := HB1.out.size; simp at this; omega, (HT.out.below ((Below.refl wr.heap.size wr).alloc (Nat.le_refl _) _) hwr).below HB1.out (by simp; omega), (HB.out.trans (((Below.refl wr.heap.size wr).alloc (Nat.le_refl _) _).mono HB.out.size)).trans (HB1.out.mono (by have := HB.out.size; simp; omega))⟩, by simp [intOf]; omega⟩
      · obtain rfl : k = n := by omega
        have hres : Tm.allB l = true := by rw [HL.out, show k = Tm.len l from HN.out, Tm.drop_end]; rfl
        have HR := Lib.hid hres
        clear hres
        go_wp2_with fail
        go_ret
        exact ⟨by rw [HR.out]; rfl, HB.out⟩

set_option maxHeartbeats 2000000 in
theorem rnodes_up (m : Nat) : ∀ (p : Pay) (l : Fo) (A : Option Addr) (c B : Nat) (w : World), Tm.size l < m → ArgsB w B A (Tm.len l) l → B ≤ w.heap.size →
    Calls Tryd.prog 55 #[tv p A (Tm.len l) c] w fun e w' => e = .returned (.bool (Tm.goodB p l)) ∧ Below w.heap.size w w' := by
  induction m with
  | zero => intro p l A c B w hm; omega
  | succ m ih =>
    intro p l A c B w hm hA hBw
    have cn := fun w1 : World => rnode_any p (Tm.len l) c A w1
    obtain ⟨n, hn⟩ : ∃ n, n = Tm.len l := ⟨_, rfl⟩
    rw [← hn] at hA cn ⊢
    have hnn : n ≤ 9223372036854775807 := hA.hi
    have HN := Lib.hid hn
    have HA := Lib.hid hA
    have HM := Lib.hid hm
    have IH := Lib.hid ih
    cases hnb : Tm.nodeB p n
    · rw [hnb] at cn
      have CN := Lib.hid cn
      have hres : Tm.goodB p l = false := by unfold Tm.goodB; rw [← HN.out, hnb]; rfl
      rw [hres]
      clear hn hA ih hm cn hnb hres
      go_enter Tryd.func55, Tryd.ntmps55
      go_wp2_with fail
      refine (CN.out _).mono ?_
      rintro e w1 ⟨rfl, hb1⟩
      have HB1 := Lib.hid hb1
      clear hb1
      go_wp2_with fail
      go_ret
      exact ⟨rfl, ((Below.refl w.heap.size w).alloc (Nat.le_refl _) _).trans (HB1.out.mono (by simp))⟩
    rw [hnb] at cn
    have CN := Lib.hid cn
    have hres : Tm.goodB p l = Tm.allB l := by unfold Tm.goodB; rw [← HN.out, hnb]; rfl
    rw [hres]
    clear hn hA ih hm cn hnb hres
    go_enter Tryd.func55, Tryd.ntmps55
    go_wp2_with fail
    refine (CN.out _).mono ?_
    rintro e w1 ⟨rfl, hb1⟩
    have hta : TermAt w1 w.heap.size p A n c := (TermAt.new w p A n c 24).below hb1 (by simp)
    have hwb : Below w.heap.size w w1 := ((Below.refl w.heap.size w).alloc (Nat.le_refl _) _).trans (hb1.mono (by simp))
    have hws : w.heap.size < w1.heap.size := by have := hb1.size; simp at this; omega
    have y4 := hta.args
    have HWB := Lib.hid hwb
    have HT0 := Lib.hid hta
    clear hb1 hta hwb
    go_wp2_with fail
    clear y4
    go_loopw [3] (fun u wr => ∃ k : Nat, k ≤ n ∧ u = .int .i64 k ∧ Tm.allB l = Tm.allB (Tm.dropF l k) ∧ w.heap.size < wr.heap.size ∧ TermAt wr w.heap.size p A n c ∧ Below w.heap.size w wr) (fun u _ => n - (intOf u).toNat)
    case atStart => exact ⟨0, Nat.zero_le _, rfl, by rw [Tm.drop_zero], hws, HT0.out, HWB.out⟩
    case round =>
      obtain ⟨k, hk, rfl, hal, hwr, hta, hbl⟩ := hrel
      have y4 := hta.args
      have HB := Lib.hid hbl
      have HT := Lib.hid hta
      have HL := Lib.hid hal
      clear hbl hta hal
      by_cases hlt : k < n
      · obtain ⟨b, o, p1, l1, r1, A1, c1, rfl, hbB, hd, hnode⟩ := HA.out.at hlt
        have hbw : b < w.heap.size := Nat.lt_of_lt_of_le hbB hBw
        have y0 := (HB.out.cell (p := ⟨b, o + k * 4, none⟩) hbw).trans hnode.kind
        have y1 := (HB.out.cell (p := ⟨b, o + k * 4 + 1, none⟩) hbw).trans hnode.num
        have y2 := (HB.out.cell (p := ⟨b, o + k * 4 + 2, none⟩) hbw).trans hnode.name
        have y3 := (HB.out.cell (p := ⟨b, o + k * 4 + 3, none⟩) hbw).trans hnode.args
        have HD := Lib.hid hd
        have HI := Lib.hid (hnode.inn.below HB.out hBw)
        clear hd hnode
        have hs1 : Tm.size l1 < m := by have e := HD.out; have := Tm.size_drop_le l k; rw [e] at this; simp only [Tm.size] at this; have := HM.out; omega
        have hs2 : Tm.allB l = (Tm.goodB p1 l1 && Tm.allB (Tm.dropF l (k + 1))) := by rw [HL.out, Tm.drop_succ HD.out, HD.out]; rfl
        have HS := Lib.hid hs2
        have C1 := Lib.hid fun (w2 : World) (h2 : ArgsB w2 B A1 (Tm.len l1) l1) (h3 : B ≤ w2.heap.size) => IH.out p1 l1 A1 c1 B w2 hs1 h2 h3
        clear hs1 hs2
        cases hg : Tm.goodB p1 l1
        · rw [hg] at C1 HS
          have hres : Tm.allB l = false := by rw [HS.out]; rfl
          have HR := Lib.hid hres
          clear hg hres
          go_wp2_with fail
          refine (C1.out _ ?_ ?_).mono ?_
          · exact HI.out
          · omega
          rintro e w2 ⟨rfl, hb1⟩
          have HB1 := Lib.hid hb1
          clear hb1
          go_wp2_with fail
          go_ret
          exact ⟨by rw [HR.out]; rfl, HB.out.trans (HB1.out.mono HB.out.size)⟩
        · rw [hg] at C1 HS
          clear hg
          go_wp2_with fail
          refine (C1.out _ ?_ ?_).mono ?_
          · exact HI.out
          · omega
          rintro e w2 ⟨rfl, hb1⟩
          have HB1 := Lib.hid hb1
          clear hb1
          go_wp2_with fail
          exact ⟨⟨k + 1, by omega, by go_num, by rw [HS.out]; rfl, by have := HB1.out.size; omega, HT.out.below HB1.out hwr, HB.out.trans (HB1.out.mono HB.out.size)⟩, by simp [intOf]; omega⟩
      · obtain rfl : k = n := by omega
        have hres : Tm.allB l = true := by rw [HL.out, show k = Tm.len l from HN.out, Tm.drop_end]; rfl
        have HR := Lib.hid hres
        clear hres
        go_wp2_with fail
        go_ret
        exact ⟨by rw [HR.out]; rfl, HB.out⟩

theorem valid_any (p : Pay) (l : Fo) (A : Option Addr) (c B : Nat) (w : World) (h : ArgsB w B A (Tm.len l) l) (hB : B ≤ w.heap.size) :
    Calls Tryd.prog 36 #[tv p A (Tm.len l) c] w fun e w' => e = .returned (.bool (Tm.validB p l)) ∧ Below w.heap.size w w' := by
  have C1 := Lib.hid fun (w1 : World) (h1 : ArgsB w1 B A (Tm.len l) l) (h2 : B ≤ w1.heap.size) => size_any p l A c B w1 h1 h2
  have C2 := Lib.hid fun (w1 : World) (h1 : ArgsB w1 B A (Tm.len l) l) (h2 : B ≤ w1.heap.size) => areValid_up (Tm.size l + 1) p l A c B w1 (by omega) h1 h2
  obtain ⟨s, hs⟩ : ∃ s, s = Tm.sizeB l := ⟨_, rfl⟩
  rw [← hs] at C1
  have hd : Tm.validB p l = (decide ((s : Int) ≤ 2000) && Tm.goodB p l) := by
    unfold Tm.validB
    congr 1
    rw [decide_eq_decide, hs]
    unfold Tm.sizeB
    omega
  rw [hd]
  have hsz : s ≤ 2001 := by rw [hs]; unfold Tm.sizeB; omega
  obtain ⟨n, hn⟩ : ∃ n, n = Tm.len l := ⟨_, rfl⟩
  rw [← hn] at h C1 C2 ⊢
  have H := Lib.hid h
  clear hn h hs hd
  by_cases hle : (s : Int) ≤ 2000
  · rw [decide_eq_true hle]
    go_enter Tryd.func36, Tryd.ntmps36
    go_wp2_with fail
    refine (C1.out _ ?_ ?_).mono ?_
    · exact H.out.below ((Below.refl w.heap.size w).alloc (Nat.le_refl _) _) hB
    · simp; omega
    rintro e w1 ⟨rfl, hb1⟩
    have hta : TermAt w1 w.heap.size p A n c := (TermAt.new w p A n c 24).below hb1 (by simp)
    have hwb : Below w.heap.size w w1 := ((Below.refl w.heap.size w).alloc (Nat.le_refl _) _).trans (hb1.mono (by simp))
    have y0 := hta.kind
    have y1 := hta.num
    have y2 := hta.name
    have y3 := hta.args
    have hws : w.heap.size < w1.heap.size := by have := hb1.size; simp at this; omega
    have HWB := Lib.hid hwb
    clear hb1 hta hwb
    go_wp2_with fail
    refine (C2.out _ ?_ ?_).mono ?_
    · exact H.out.below HWB.out hB
    · omega
    rintro e w2 ⟨rfl, hb2⟩
    have HB2 := Lib.hid hb2
    clear hb2
    go_wp2_with fail
    go_ret
    exact ⟨rfl, HWB.out.trans (HB2.out.mono (by omega))⟩
  · rw [decide_eq_false hle]
    go_enter Tryd.func36, Tryd.ntmps36
    go_wp2_with fail
    refine (C1.out _ ?_ ?_).mono ?_
    · exact H.out.below ((Below.refl w.heap.size w).alloc (Nat.le_refl _) _) hB
    · simp; omega
    rintro e w1 ⟨rfl, hb1⟩
    have hwb : Below w.heap.size w w1 := ((Below.refl w.heap.size w).alloc (Nat.le_refl _) _).trans (hb1.mono (by simp))
    have HWB := Lib.hid hwb
    clear hb1 hwb
    go_wp2_with fail
    go_ret
    exact ⟨rfl, HWB.out⟩

theorem rvalid_any (p : Pay) (l : Fo) (A : Option Addr) (c B : Nat) (w : World) (h : ArgsB w B A (Tm.len l) l) (hB : B ≤ w.heap.size) :
    Calls Tryd.prog 31 #[tv p A (Tm.len l) c] w fun e w' => e = .returned (.bool (Tm.validB p l)) ∧ Below w.heap.size w w' := by
  have C1 := Lib.hid fun (w1 : World) (h1 : ArgsB w1 B A (Tm.len l) l) (h2 : B ≤ w1.heap.size) => rsize_any p l A c B w1 h1 h2
  have C2 := Lib.hid fun (w1 : World) (h1 : ArgsB w1 B A (Tm.len l) l) (h2 : B ≤ w1.heap.size) => rnodes_up (Tm.size l + 1) p l A c B w1 (by omega) h1 h2
  obtain ⟨s, hs⟩ : ∃ s, s = Tm.sizeB l := ⟨_, rfl⟩
  rw [← hs] at C1
  have hd : Tm.validB p l = (decide ((s : Int) ≤ 2000) && Tm.goodB p l) := by
    unfold Tm.validB
    congr 1
    rw [decide_eq_decide, hs]
    unfold Tm.sizeB
    omega
  rw [hd]
  have hsz : s ≤ 2001 := by rw [hs]; unfold Tm.sizeB; omega
  obtain ⟨n, hn⟩ : ∃ n, n = Tm.len l := ⟨_, rfl⟩
  rw [← hn] at h C1 C2 ⊢
  have H := Lib.hid h
  clear hn h hs hd
  by_cases hle : (s : Int) ≤ 2000
  · rw [decide_eq_true hle]
    go_enter Tryd.func31, Tryd.ntmps31
    go_wp2_with fail
    refine (C1.out _ ?_ ?_).mono ?_
    · exact H.out.below ((Below.refl w.heap.size w).alloc (Nat.le_refl _) _) hB
    · simp; omega
    rintro e w1 ⟨rfl, hb1⟩
    have hta : TermAt w1 w.heap.size p A n c := (TermAt.new w p A n c 24).below hb1 (by simp)
    have hwb : Below w.heap.size w w1 := ((Below.refl w.heap.size w).alloc (Nat.le_refl _) _).trans (hb1.mono (by simp))
    have y0 := hta.kind
    have y1 := hta.num
    have y2 := hta.name
    have y3 := hta.args
    have hws : w.heap.size < w1.heap.size := by have := hb1.size; simp at this; omega
    have HWB := Lib.hid hwb
    clear hb1 hta hwb
    go_wp2_with fail
    refine (C2.out _ ?_ ?_).mono ?_
    · exact H.out.below HWB.out hB
    · omega
    rintro e w2 ⟨rfl, hb2⟩
    have HB2 := Lib.hid hb2
    clear hb2
    go_wp2_with fail
    go_ret
    exact ⟨rfl, HWB.out.trans (HB2.out.mono (by omega))⟩
  · rw [decide_eq_false hle]
    go_enter Tryd.func31, Tryd.ntmps31
    go_wp2_with fail
    refine (C1.out _ ?_ ?_).mono ?_
    · exact H.out.below ((Below.refl w.heap.size w).alloc (Nat.le_refl _) _) hB
    · simp; omega
    rintro e w1 ⟨rfl, hb1⟩
    have hwb : Below w.heap.size w w1 := ((Below.refl w.heap.size w).alloc (Nat.le_refl _) _).trans (hb1.mono (by simp))
    have HWB := Lib.hid hwb
    clear hb1 hwb
    go_wp2_with fail
    go_ret
    exact ⟨rfl, HWB.out⟩
end Go.Proofs.YtcjakmafojbhlaaDoor
namespace Go.Proofs.YtcjakmafojbhlaaDoor
set_option linter.unusedVariables false
set_option linter.unusedSimpArgs false
open Go.RowKit

/-- What the recursion hands on: two terms of fewer than m nodes below the first are compared. -/
def Compares (f m : Nat) : Prop := ∀ (p : Pay) (l : Fo) (A : Option Addr) (c : Nat) (p' : Pay) (l' : Fo) (A' : Option Addr) (c' B : Nat) (w : World), Tm.size l < m → ArgsB w B A (Tm.len l) l → ArgsB w B A' (Tm.len l') l' → B ≤ w.heap.size →
    Calls Tryd.prog f #[tv p A (Tm.len l) c, tv p' A' (Tm.len l') c'] w fun e w' => e = .returned (.bool (Tm.sameT p l p' l')) ∧ Below w.heap.size w w'

theorem sameT_split (k v : Int) (s : ByteArray) (l : Fo) (k' v' : Int) (s' : ByteArray) (l' : Fo) : Tm.sameT (k, v, s) l (k', v', s') l' = (decide (k = k') && decide (v = v') && decide (s = s') && Tm.sameB l l') := rfl
theorem str_beq {s s' : ByteArray} (h : ¬ s = s') : (s.toList == s'.toList) = false := by
  rw [beq_eq_false_iff_ne, ByteArray.toList_eq, ByteArray.toList_eq]
  intro e
  apply h
  have : s.data = s'.data := Array.toList_inj.1 e
  cases s; cases s'; simp_all

theorem two_boxes (w : World) (o1 o2 : Obj) : Below w.heap.size w ((w.alloc o1).alloc o2) := Only.below (X := fun _ => False) (((Only.refl _ w).alloc _).alloc _) (Nat.le_refl _) (fun _ h => h.elim)

set_option maxHeartbeats 2000000 in
set_option maxHeartbeats 4000000 in
theorem ridentical_up (m : Nat) : Compares 53 m := by
  induction m with
  | zero => intro p l A c p' l' A' c' B w hm; omega
  | succ m ih =>
    intro p l A c p' l' A' c' B w hm hA hA' hBw
    obtain ⟨k, v, s⟩ := p
    obtain ⟨k', v', s'⟩ := p'
    rw [sameT_split]
    obtain ⟨n, hn⟩ : ∃ n, n = Tm.len l := ⟨_, rfl⟩
    obtain ⟨n', hn'⟩ : ∃ n', n' = Tm.len l' := ⟨_, rfl⟩
    rw [← hn] at hA ⊢
    rw [← hn'] at hA' ⊢
    have hnn : n ≤ 9223372036854775807 := hA.hi
    have hnn' : n' ≤ 9223372036854775807 := hA'.hi
    have HA := Lib.hid hA
    have HA' := Lib.hid hA'
    have IH := Lib.hid ih
    have HM := Lib.hid hm
    clear hA hA' ih hm
    by_cases hk : ¬ k = k'
    · rw [decide_eq_false hk]
      have hb : (k != k') = true := by simpa using hk
      clear hn hn'
      go_enter Tryd.func53, Tryd.ntmps53
      go_wp2_with fail
      go_ret
      exact ⟨rfl, two_boxes _ _ _⟩
    replace hk := Classical.not_not.1 hk
    subst hk
    by_cases hv : ¬ v = v'
    · rw [decide_eq_true rfl, decide_eq_false hv]
      have hb : (v != v') = true := by simpa using hv
      clear hn hn'
      go_enter Tryd.func53, Tryd.ntmps53
      go_wp2_with fail
      go_ret
      exact ⟨rfl, two_boxes _ _ _⟩
    replace hv := Classical.not_not.1 hv
    subst hv
    by_cases hs : ¬ s = s'
    · rw [decide_eq_true rfl, decide_eq_true rfl, decide_eq_false hs]
      have hb := str_beq hs
      have hb2 : (s.toList != s'.toList) = true := by rw [bne, hb]; rfl
      clear hs hn hn'
      go_enter Tryd.func53, Tryd.ntmps53
      go_wp2_with fail
      go_ret
      exact ⟨rfl, two_boxes _ _ _⟩
    replace hs := Classical.not_not.1 hs
    subst hs
    rw [decide_eq_true rfl, decide_eq_true rfl, decide_eq_true rfl]
    by_cases hnm : ¬ n = n'
    · have hres : Tm.sameB l l' = false := Tm.sameB_len (by omega)
      rw [hres]
      have hb : ((n : Int) != (n' : Int)) = true := by simp; omega
      clear hn hn' hres
      go_enter Tryd.func53, Tryd.ntmps53
      go_wp2_with fail
      go_ret
      exact ⟨rfl, two_boxes _ _ _⟩
    replace hnm := Classical.not_not.1 hnm
    subst hnm
    have HN := Lib.hid hn
    have HN' := Lib.hid hn'
    clear hn hn'
    go_enter Tryd.func53, Tryd.ntmps53
    go_wp2_with fail
    go_loopw [5] (fun u wr => ∃ i : Nat, i ≤ n ∧ u = .int .i64 i ∧ Tm.sameB l l' = Tm.sameB (Tm.dropF l i) (Tm.dropF l' i) ∧ w.heap.size + 1 < wr.heap.size ∧ TermAt wr w.heap.size (k, v, s) A n c ∧ TermAt wr (w.heap.size + 1) (k, v, s) A' n c' ∧ Below w.heap.size w wr) (fun u _ => n - (intOf u).toNat)
    case atStart => exact ⟨0, Nat.zero_le _, rfl, by rw [Tm.drop_zero, Tm.drop_zero], by simp, (TermAt.new w (k, v, s) A n c 24).below (B := w.heap.size + 1) ((Below.refl _ _).alloc (by simp) _) (by omega), by simpa using TermAt.new (w.alloc _) (k, v, s) A' n c' 24, two_boxes _ _ _⟩
    case round =>
      obtain ⟨i, hi, rfl, hal, hwr, hta, hta', hbl⟩ := hrel
      have x3 := hta.args
      have x3' := hta'.args
      have HB := Lib.hid hbl
      have HL := Lib.hid hal
      have HT := Lib.hid hta
      have HT' := Lib.hid hta'
      clear hbl hal hta hta'
      by_cases hlt : i < n
      · obtain ⟨b, o, p1, l1, r1, A1, c1, rfl, hbB, hd, hnode⟩ := HA.out.at hlt
        obtain ⟨b', o', p2, l2, r2, A2, c2, rfl, hbB', hd', hnode'⟩ := HA'.out.at hlt
        have hbw : b < w.heap.size := Nat.lt_of_lt_of_le hbB hBw
        have hbw' : b' < w.heap.size := Nat.lt_of_lt_of_le hbB' hBw
        have y0 := (HB.out.cell (p := ⟨b, o + i * 4, none⟩) hbw).trans hnode.kind
        have y1 := (HB.out.cell (p := ⟨b, o + i * 4 + 1, none⟩) hbw).trans hnode.num
        have y2 := (HB.out.cell (p := ⟨b, o + i * 4 + 2, none⟩) hbw).trans hnode.name
        have y3 := (HB.out.cell (p := ⟨b, o + i * 4 + 3, none⟩) hbw).trans hnode.args
        have z0 := (HB.out.cell (p := ⟨b', o' + i * 4, none⟩) hbw').trans hnode'.kind
        have z1 := (HB.out.cell (p := ⟨b', o' + i * 4 + 1, none⟩) hbw').trans hnode'.num
        have z2 := (HB.out.cell (p := ⟨b', o' + i * 4 + 2, none⟩) hbw').trans hnode'.name
        have z3 := (HB.out.cell (p := ⟨b', o' + i * 4 + 3, none⟩) hbw').trans hnode'.args
        have HD := Lib.hid (And.intro hd hd')
        have HI := Lib.hid (hnode.inn.below HB.out hBw)
        have HI' := Lib.hid (hnode'.inn.below HB.out hBw)
        clear hd hd' hnode hnode'
        have hs1 : Tm.size l1 < m := by have e := HD.out.1; have := Tm.size_drop_le l i; rw [e] at this; simp only [Tm.size] at this; have := HM.out; omega
        have hs2 : Tm.sameB l l' = (Tm.sameT p1 l1 p2 l2 && Tm.sameB (Tm.dropF l (i + 1)) (Tm.dropF l' (i + 1))) := by rw [HL.out, Tm.drop_succ HD.out.1, Tm.drop_succ HD.out.2, HD.out.1, HD.out.2, Tm.sameB_cons]
        have HS := Lib.hid hs2
        have C1 := Lib.hid fun (w2 : World) (h2 : ArgsB w2 B A1 (Tm.len l1) l1) (h2' : ArgsB w2 B A2 (Tm.len l2) l2) (h3 : B ≤ w2.heap.size) => IH.out p1 l1 A1 c1 p2 l2 A2 c2 B w2 hs1 h2 h2' h3
        clear hs1 hs2
        have hwr2 := HB.out.size
        go_wp2_with fail
        go_still_tail 10, (by kernel_rfl)
        change wpList _ _ _ _ _ wr.drew
        obtain ⟨w3, hw3⟩ : ∃ w3, w3 = wr.drew := ⟨_, rfl⟩
        have hw4 : Below wr.heap.size wr w3 := by rw [hw3]; exact (Below.refl _ _).drew
        have hw5 : w3.heap.size = wr.heap.size := by rw [hw3]; rfl
        rw [← hw3]
        have HW := Lib.hid (And.intro hw4 hw5)
        clear hw3 hw4 hw5 y0 y1 y2 y3 z0 z1 z2 z3 x3 x3'
        cases hg : Tm.sameT p1 l1 p2 l2
        · rw [hg] at C1 HS
          have hres : Tm.sameB l l' = false := by rw [HS.out]; rfl
          have HR := Lib.hid hres
          clear hg hres
          go_wp2_with fail
          refine (C1.out _ ?_ ?_ ?_).mono ?_
          · exact HI.out.below HW.out.1 (by omega)
          · exact HI'.out.below HW.out.1 (by omega)
          · have := HW.out.2; omega
          rintro e w2 ⟨rfl, hb1⟩
          have HB1 := Lib.hid hb1
          clear hb1
          go_wp2_with fail
          go_ret
          exact ⟨by rw [HR.out]; rfl, HB.out.trans ((HW.out.1.mono hwr2).trans (HB1.out.mono (by have := HW.out.2; omega)))⟩
        · rw [hg] at C1 HS
          clear hg
          go_wp2_with fail
          refine (C1.out _ ?_ ?_ ?_).mono ?_
          · exact HI.out.below HW.out.1 (by omega)
          · exact HI'.out.below HW.out.1 (by omega)
          · have := HW.out.2; omega
          rintro e w2 ⟨rfl, hb1⟩
          have HB1 := Lib.hid (HW.out.1.trans (hb1.mono (by have := HW.out.2; omega)) : Below wr.heap.size wr w2)
          clear hb1
          go_wp2_with fail
          exact ⟨⟨i + 1, by omega, by go_num, by rw [HS.out]; rfl, by have := HB1.out.size; omega, HT.out.below HB1.out (by omega), HT'.out.below HB1.out (by omega), HB.out.trans (HB1.out.mono hwr2)⟩, by simp [intOf]; omega⟩
      · obtain rfl : i = n := by omega
        have hres : Tm.sameB l l' = true := by
          have e1 : Tm.dropF l i = .nil := by rw [show i = Tm.len l from HN.out]; exact Tm.drop_end l
          have e2 : Tm.dropF l' i = .nil := by rw [show i = Tm.len l' from HN'.out]; exact Tm.drop_end l'
          rw [HL.out, e1, e2]; rfl
        have HR := Lib.hid hres
        clear hres
        go_wp2_with fail
        go_ret
        exact ⟨by rw [HR.out]; rfl, HB.out⟩
end Go.Proofs.YtcjakmafojbhlaaDoor
namespace Go.Proofs.YtcjakmafojbhlaaDoor
set_option linter.unusedVariables false
set_option linter.unusedSimpArgs false
open Go.RowKit

set_option maxHeartbeats 1000000 in
set_option maxHeartbeats 1000000 in
theorem rsame_any (p : Pay) (l : Fo) (A : Option Addr) (c : Nat) (p' : Pay) (l' : Fo) (A' : Option Addr) (c' B : Nat) (w : World) (hA : ArgsB w B A (Tm.len l) l) (hA' : ArgsB w B A' (Tm.len l') l') (hB : B ≤ w.heap.size) :
    Calls Tryd.prog 28 #[tv p A (Tm.len l) c, tv p' A' (Tm.len l') c'] w fun e w' => e = .returned (.bool (Tm.validB p l && Tm.sameT p l p' l')) ∧ Below w.heap.size w w' := by
  have V1 := Lib.hid fun (w1 : World) (h1 : ArgsB w1 B A (Tm.len l) l) (h2 : B ≤ w1.heap.size) => rvalid_any p l A c B w1 h1 h2
  have V2 := Lib.hid fun (w1 : World) (h1 : ArgsB w1 B A' (Tm.len l') l') (h2 : B ≤ w1.heap.size) => rvalid_any p' l' A' c' B w1 h1 h2
  have C1 := Lib.hid fun (w1 : World) (h1 : ArgsB w1 B A (Tm.len l) l) (h2 : ArgsB w1 B A' (Tm.len l') l') (h3 : B ≤ w1.heap.size) => ridentical_up (Tm.size l + 1) p l A c p' l' A' c' B w1 (by omega) h1 h2 h3
  have hv2 : Tm.validB p l = true → Tm.validB p' l' = false → Tm.sameT p l p' l' = false := by
    intro h1 h2
    cases hs : Tm.sameT p l p' l' with
    | false => rfl
    | true =>
      obtain ⟨rfl, rfl⟩ := (Tm.sameT_eq _ _ _ _).1 hs
      rw [h1] at h2; cases h2
  obtain ⟨n, hn⟩ : ∃ n, n = Tm.len l := ⟨_, rfl⟩
  obtain ⟨n', hn'⟩ : ∃ n', n' = Tm.len l' := ⟨_, rfl⟩
  rw [← hn] at hA C1 V1 ⊢
  rw [← hn'] at hA' C1 V2 ⊢
  have HA := Lib.hid hA
  have HA' := Lib.hid hA'
  have b0 := two_boxes w
  have BX := Lib.hid b0
  clear hA hA' hn hn' b0
  cases hv : Tm.validB p l
  · rw [hv] at V1
    clear hv hv2
    go_enter Tryd.func28, Tryd.ntmps28
    go_wp2_with fail
    refine (V1.out _ ?_ ?_).mono ?_
    · exact HA.out.below (BX.out _ _) hB
    · simp; omega
    rintro e w1 ⟨rfl, hb1⟩
    have HB1 := Lib.hid ((BX.out _ _).trans (hb1.mono (by simp; omega)) : Below w.heap.size w w1)
    clear hb1
    go_wp2_with fail
    go_ret
    exact ⟨rfl, HB1.out⟩
  rw [hv] at V1
  cases hv' : Tm.validB p' l'
  · have hs := hv2 hv hv'
    rw [hs]
    rw [hv'] at V2
    clear hv hv2 hv' hs
    go_enter Tryd.func28, Tryd.ntmps28
    go_wp2_with fail
    refine (V1.out _ ?_ ?_).mono ?_
    · exact HA.out.below (BX.out _ _) hB
    · simp; omega
    rintro e w1 ⟨rfl, hb1⟩
    have hta' : TermAt w1 (w.heap.size + 1) p' A' n' c' := (by simpa using TermAt.new (w.alloc _) p' A' n' c' 24 : TermAt ((w.alloc _).alloc _) (w.heap.size + 1) p' A' n' c').below hb1 (by simp)
    have y0 := hta'.kind
    have y1 := hta'.num
    have y2 := hta'.name
    have y3 := hta'.args
    have hws : w.heap.size + 1 < w1.heap.size := by have := hb1.size; simp at this; omega
    have HB1 := Lib.hid ((BX.out _ _).trans (hb1.mono (by simp; omega)) : Below w.heap.size w w1)
    clear hb1 hta'
    go_wp2_with fail
    refine (V2.out _ ?_ ?_).mono ?_
    · exact HA'.out.below HB1.out hB
    · omega
    rintro e w2 ⟨rfl, hb2⟩
    have HB2 := Lib.hid (HB1.out.trans (hb2.mono (by omega)))
    clear hb2
    go_wp2_with fail
    go_ret
    exact ⟨rfl, HB2.out⟩
  rw [hv'] at V2
  clear hv hv2 hv'
  go_enter Tryd.func28, Tryd.ntmps28
  go_wp2_with fail
  refine (V1.out _ ?_ ?_).mono ?_
  · exact HA.out.below (BX.out _ _) hB
  · simp; omega
  rintro e w1 ⟨rfl, hb1⟩
  have hta : TermAt w1 w.heap.size p A n c := ((TermAt.new w p A n c 24).below (B := w.heap.size + 1) ((Below.refl _ _).alloc (by simp) _) (by omega)).below hb1 (by simp; omega)
  have hta' : TermAt w1 (w.heap.size + 1) p' A' n' c' := (by simpa using TermAt.new (w.alloc _) p' A' n' c' 24 : TermAt ((w.alloc _).alloc _) (w.heap.size + 1) p' A' n' c').below hb1 (by simp)
  have y0 := hta'.kind
  have y1 := hta'.num
  have y2 := hta'.name
  have y3 := hta'.args
  have z0 := hta.kind
  have z1 := hta.num
  have z2 := hta.name
  have z3 := hta.args
  have hws : w.heap.size + 1 < w1.heap.size := by have := hb1.size; simp at this; omega
  have HB1 := Lib.hid ((BX.out _ _).trans (hb1.mono (by simp; omega)) : Below w.heap.size w w1)
  have HT := Lib.hid hta
  have HT' := Lib.hid hta'
  clear hb1 hta hta'
  clear z0 z1 z2 z3
  go_wp2_with fail
  refine (V2.out _ ?_ ?_).mono ?_
  · exact HA'.out.below HB1.out hB
  · omega
  rintro e w2 ⟨rfl, hb2⟩
  have hws2 : w.heap.size + 1 < w2.heap.size := by have := hb2.size; omega
  clear y0 y1 y2 y3
  have y0 := (HT'.out.below hb2 hws).kind
  have y1 := (HT'.out.below hb2 hws).num
  have y2 := (HT'.out.below hb2 hws).name
  have y3 := (HT'.out.below hb2 hws).args
  have z0 := (HT.out.below hb2 (by omega)).kind
  have z1 := (HT.out.below hb2 (by omega)).num
  have z2 := (HT.out.below hb2 (by omega)).name
  have z3 := (HT.out.below hb2 (by omega)).args
  have HB2 := Lib.hid (HB1.out.trans (hb2.mono (by omega)))
  clear hb2
  go_wp2_with fail
  refine (C1.out _ ?_ ?_ ?_).mono ?_
  · exact HA.out.below HB2.out hB
  · exact HA'.out.below HB2.out hB
  · omega
  rintro e w3 ⟨rfl, hb3⟩
  have HB3 := Lib.hid (HB2.out.trans (hb3.mono (by omega)))
  clear hb3
  go_wp2_with fail
  go_ret
  exact ⟨rfl, HB3.out⟩

end Go.Proofs.YtcjakmafojbhlaaDoor
namespace Go.Proofs.YtcjakmafojbhlaaDoor
set_option linter.unusedVariables false
set_option linter.unusedSimpArgs false
open Go.RowKit

namespace Tm
/-- Each variable of a row, from left to right, gives way to what f returns for it; the state goes along. -/
def reb {σ : Type} (f : σ → Int → σ × Pay × Fo) : σ → Fo → σ × Fo
  | s, .nil => (s, .nil)
  | s, .node p l r =>
    if p.1 = 0 then ((reb f (f s p.2.1).1 r).1, .node (f s p.2.1).2.1 (f s p.2.1).2.2 (reb f (f s p.2.1).1 r).2)
    else ((reb f (reb f s l).1 r).1, .node p (reb f s l).2 (reb f (reb f s l).1 r).2)
/-- The same of one term. -/
def rebT {σ : Type} (f : σ → Int → σ × Pay × Fo) (s : σ) (p : Pay) (l : Fo) : σ × Pay × Fo :=
  if p.1 = 0 then f s p.2.1 else ((reb f s l).1, p, (reb f s l).2)
theorem reb_cons {σ : Type} (f : σ → Int → σ × Pay × Fo) (s : σ) (p : Pay) (l r : Fo) : reb f s (.node p l r) = ((reb f (rebT f s p l).1 r).1, .node (rebT f s p l).2.1 (rebT f s p l).2.2 (reb f (rebT f s p l).1 r).2) := by
  unfold rebT
  by_cases h : p.1 = 0
  · rw [reb, if_pos h, if_pos h]
  · rw [reb, if_neg h, if_neg h]
theorem reb_len {σ : Type} (f : σ → Int → σ × Pay × Fo) (F : Fo) : ∀ s, len (reb f s F).2 = len F := by
  induction F with
  | nil => intro s; rfl
  | node p l r _ ih => intro s; rw [reb_cons]; simp only [len, ih]
end Tm

/-- What a function value of one variable is good for: it returns what f says, in the memory that may lie below B or be new, and turns no block but those of X. -/
structure OfSpec {σ : Type} (f : σ → Int → σ × Pay × Fo) (g : Nat) (cap : Array Value) (B Bo Bx : Nat) (X : Nat → Prop) (Inv : σ → World → Prop) : Prop where
  enters : ∀ (args : Array Value) (w : World), (callFunc g args).run Tryd.prog w = .ok (.enter g args) w
  lo : B ≤ Bx
  lo2 : Bo ≤ B
  own : ∀ k, X k → B ≤ k ∧ k < Bx
  keeps : ∀ (s : σ) (w w' : World), Inv s w → w.heap.size ≤ w'.heap.size → (∀ k, k < Bx → w'.heap[k]? = w.heap[k]?) → Inv s w'
  gives : ∀ (s : σ) (v : Int) (w : World), Inv s w → Bx ≤ w.heap.size → 0 ≤ v → v ≤ 1099511627776 → Calls Tryd.prog g (#[.int .i64 v] ++ cap) w fun e w' =>
    ∃ A c, e = .returned (tv (f s v).2.1 A (Tm.len (f s v).2.2) c) ∧ ArgsIn (fun b => (b < Bo ∨ w.heap.size ≤ b) ∧ b < w'.heap.size) w' A (Tm.len (f s v).2.2) (f s v).2.2 ∧ Inv (f s v).1 w' ∧ Only X w w'

/-- A block of a term of its own, that can be written. -/
structure SoftAt (w : World) (b : Nat) : Prop where
  s0 : w.frozen? ⟨b, 0, none⟩ = false
  s1 : w.frozen? ⟨b, 1, none⟩ = false
  s2 : w.frozen? ⟨b, 2, none⟩ = false
  s3 : w.frozen? ⟨b, 3, none⟩ = false
theorem SoftAt.new (w : World) (cs : Array Value) (t : TypeId) : SoftAt (w.alloc (.cells cs t)) w.heap.size := by
  have h := alloc_new w (.cells cs t)
  constructor <;> (unfold World.frozen?; rw [h]; rfl)
theorem SoftAt.same {w w' : World} {b : Nat} (h : SoftAt w b) (hk : w'.heap[b]? = w.heap[b]?) : SoftAt w' b :=
  ⟨(frozen_of_block (p := ⟨b, 0, none⟩) hk).trans h.s0, (frozen_of_block (p := ⟨b, 1, none⟩) hk).trans h.s1, (frozen_of_block (p := ⟨b, 2, none⟩) hk).trans h.s2, (frozen_of_block (p := ⟨b, 3, none⟩) hk).trans h.s3⟩
theorem TermAt.same {w w' : World} {b : Nat} {p : Pay} {A : Option Addr} {n c : Nat} (h : TermAt w b p A n c) (hk : w'.heap[b]? = w.heap[b]?) : TermAt w' b p A n c :=
  ⟨(cell_of_block (p := ⟨b, 0, none⟩) hk).trans h.kind, (cell_of_block (p := ⟨b, 1, none⟩) hk).trans h.num, (cell_of_block (p := ⟨b, 2, none⟩) hk).trans h.name, (cell_of_block (p := ⟨b, 3, none⟩) hk).trans h.args⟩
/-- Four cells of a row, set. -/
abbrev set4 (w : World) (b o : Nat) (p : Pay) (A : Option Addr) (n c : Nat) : World :=
  (((w.setCell ⟨b, o, none⟩ (.int .i64 p.1)).setCell ⟨b, o + 1, none⟩ (.int .i64 p.2.1)).setCell ⟨b, o + 2, none⟩ (.string p.2.2)).setCell ⟨b, o + 3, none⟩ (.slice A n c)
theorem set4_block (w : World) (b o : Nat) (p : Pay) (A : Option Addr) (n c k : Nat) (h : k ≠ b) : (set4 w b o p A n c).heap[k]? = w.heap[k]? := by
  unfold set4
  rw [Below.heap_setCell _ ⟨b, o + 3, none⟩ _ _ h, Below.heap_setCell _ ⟨b, o + 2, none⟩ _ _ h, Below.heap_setCell _ ⟨b, o + 1, none⟩ _ _ h, Below.heap_setCell _ ⟨b, o, none⟩ _ _ h]
theorem set4_size (w : World) (b o : Nat) (p : Pay) (A : Option Addr) (n c : Nat) : (set4 w b o p A n c).heap.size = w.heap.size := by simp [set4, World.setCell]
theorem set4_only {X : Nat → Prop} {a w : World} (b o : Nat) (p : Pay) (A : Option Addr) (n c : Nat) (h : Only X a w) (hb : a.heap.size ≤ b) : Only X a (set4 w b o p A n c) :=
  ⟨h.os, h.tape, h.output, by rw [set4_size]; exact h.size, fun k hk hx => (set4_block w b o p A n c k (by omega)).trans (h.block k hk hx)⟩
theorem set4_frozen (w : World) (b o : Nat) (p : Pay) (A : Option Addr) (n c : Nat) (x : Addr) : (set4 w b o p A n c).frozen? x = w.frozen? x := by
  unfold set4
  rw [World.frozen?_setCell, World.frozen?_setCell, World.frozen?_setCell, World.frozen?_setCell]
theorem addr_ne {b i j : Nat} (h : i ≠ j) : (⟨b, i, none⟩ : Addr) ≠ ⟨b, j, none⟩ := by intro e; injection e; contradiction
/-- Four cells that are there. -/
structure Four (w : World) (b o : Nat) : Prop where
  c0 : (w.cell? ⟨b, o, none⟩).isSome = true
  c1 : (w.cell? ⟨b, o + 1, none⟩).isSome = true
  c2 : (w.cell? ⟨b, o + 2, none⟩).isSome = true
  c3 : (w.cell? ⟨b, o + 3, none⟩).isSome = true
theorem TermAt.four {w : World} {b : Nat} {p : Pay} {A : Option Addr} {n c : Nat} (h : TermAt w b p A n c) : Four w b 0 := ⟨by rw [h.kind]; rfl, by rw [show 0 + 1 = 1 from rfl, h.num]; rfl, by rw [show 0 + 2 = 2 from rfl, h.name]; rfl, by rw [show 0 + 3 = 3 from rfl, h.args]; rfl⟩
theorem cell_set {w : World} {b i j : Nat} {v : Value} (h : i ≠ j) : (w.setCell ⟨b, i, none⟩ v).cell? ⟨b, j, none⟩ = w.cell? ⟨b, j, none⟩ := by
  apply World.cell?_setCell_other
  exact addr_ne h
theorem cell_put {w : World} {b i : Nat} {v : Value} (h : (w.cell? ⟨b, i, none⟩).isSome = true) : (w.setCell ⟨b, i, none⟩ v).cell? ⟨b, i, none⟩ = some v := World.cell?_setCell_same' _ _ _ h
theorem set4_far (w : World) (b o : Nat) (p : Pay) (A : Option Addr) (n c j : Nat) (h : j < o ∨ o + 4 ≤ j) : (set4 w b o p A n c).cell? ⟨b, j, none⟩ = w.cell? ⟨b, j, none⟩ := by
  unfold set4
  rw [cell_set, cell_set, cell_set, cell_set] <;> omega
theorem set4_cells (w : World) (b o : Nat) (p : Pay) (A : Option Addr) (n c : Nat) (h : Four w b o) :
    (set4 w b o p A n c).cell? ⟨b, o, none⟩ = some (.int .i64 p.1) ∧ (set4 w b o p A n c).cell? ⟨b, o + 1, none⟩ = some (.int .i64 p.2.1) ∧ (set4 w b o p A n c).cell? ⟨b, o + 2, none⟩ = some (.string p.2.2) ∧ (set4 w b o p A n c).cell? ⟨b, o + 3, none⟩ = some (.slice A n c) := by
  unfold set4
  have e01 : o ≠ o + 1 := by omega
  have e02 : o ≠ o + 2 := by omega
  have e03 : o ≠ o + 3 := by omega
  have e12 : o + 1 ≠ o + 2 := by omega
  have e13 : o + 1 ≠ o + 3 := by omega
  have e23 : o + 2 ≠ o + 3 := by omega
  refine ⟨?_, ?_, ?_, ?_⟩
  · rw [cell_set e03.symm, cell_set e02.symm, cell_set e01.symm]
    exact cell_put h.c0
  · rw [cell_set e13.symm, cell_set e12.symm]
    exact cell_put (by rw [cell_set e01]; exact h.c1)
  · rw [cell_set e23.symm]
    exact cell_put (by rw [cell_set e12, cell_set e02]; exact h.c2)
  · exact cell_put (by rw [cell_set e23, cell_set e13, cell_set e03]; exact h.c3)
theorem set4_term (w : World) (b : Nat) (p : Pay) (A : Option Addr) (n c : Nat) (h : Four w b 0) : TermAt (set4 w b 0 p A n c) b p A n c := by
  obtain ⟨h0, h1, h2, h3⟩ := set4_cells w b 0 p A n c h
  exact ⟨h0, h1, h2, h3⟩

theorem term_info : (Tryd.prog.info? 24).map (·.size) = some 4 := by kernel_rfl
/-- A term that is a result in a block of its own. -/
theorem term_result {fn : Func} {q : Tmp} (h : fn.results = #[.cell q 24]) (tmps : Array Value) (w : World) (b : Nat) (p : Pay) (A : Option Addr) (n c : Nat) (hp : tmps.getD q undef = .pointer (some ⟨b, 0, none⟩)) (ht : TermAt w b p A n c) :
    (results fn tmps).run Tryd.prog w = .ok (tv p A n c) w := by
  have hp' : tmps[q]?.getD undef = .pointer (some ⟨b, 0, none⟩) := by simpa using hp
  have hl : (loadCells ⟨b, 0, none⟩ 4).run Tryd.prog w = .ok #[.int .i64 p.1, .int .i64 p.2.1, .string p.2.2, .slice A n c] w := by
    refine run_loadCells_list (P := Tryd.prog) w ⟨b, 0, none⟩ [.int .i64 p.1, .int .i64 p.2.1, .string p.2.2, .slice A n c] (fun j v hv => ?_)
    have hadd : (⟨b, 0, none⟩ : Addr).add j = ⟨b, j, none⟩ := by unfold Addr.add; split <;> simp_all
    rw [hadd]
    match j, hv with
    | 0, hv => cases hv; exact ht.kind
    | 1, hv => cases hv; exact ht.num
    | 2, hv => cases hv; exact ht.name
    | 3, hv => cases hv; exact ht.args
    | _ + 4, hv => cases hv
  have hagg : (isAgg 24).run Tryd.prog w = .ok true w := by
    unfold isAgg
    rw [Sem.run_bind, run_underlying Tryd.underlying24 w]
    rfl
  have hlv : (loadVar 24 ⟨b, 0, none⟩).run Tryd.prog w = .ok (tv p A n c) w := by
    cases hq : Tryd.prog.info? 24 with
    | none => have := term_info; rw [hq] at this; cases this
    | some i =>
      have hs : i.size = 4 := by have := term_info; rw [hq] at this; simpa using this
      simp [loadVar, Sem.run_bind, hagg, sizeOf, typeInfo, hq, hs, hl]
  simp [results, h, hp', asAddr, hlv]

/-- The zero Term. -/
abbrev zp : Pay := (0, 0, ByteArray.empty)

/-- Four cells that can be written. -/
structure Soft4 (w : World) (b o : Nat) : Prop where
  c0 : ∃ u, w.cell? ⟨b, o, none⟩ = some u
  c1 : ∃ u, w.cell? ⟨b, o + 1, none⟩ = some u
  c2 : ∃ u, w.cell? ⟨b, o + 2, none⟩ = some u
  c3 : ∃ u, w.cell? ⟨b, o + 3, none⟩ = some u
  s0 : w.frozen? ⟨b, o, none⟩ = false
  s1 : w.frozen? ⟨b, o + 1, none⟩ = false
  s2 : w.frozen? ⟨b, o + 2, none⟩ = false
  s3 : w.frozen? ⟨b, o + 3, none⟩ = false

def RebDoes {σ : Type} (f : σ → Int → σ × Pay × Fo) (Bo : Nat) (X : Nat → Prop) (Inv : σ → World → Prop) (s : σ) (p : Pay) (l : Fo) (w : World) (e : Ending) (w' : World) : Prop :=
  ∃ A c, e = .returned (tv (Tm.rebT f s p l).2.1 A (Tm.len (Tm.rebT f s p l).2.2) c) ∧ ArgsIn (fun b => (b < Bo ∨ w.heap.size ≤ b) ∧ b < w'.heap.size) w' A (Tm.len (Tm.rebT f s p l).2.2) (Tm.rebT f s p l).2.2 ∧ Inv (Tm.rebT f s p l).1 w' ∧ Only X w w'

set_option maxHeartbeats 4000000 in
theorem rebuilt_var {σ : Type} (f : σ → Int → σ × Pay × Fo) (g : Nat) (cap : Array Value) (B Bo Bx : Nat) (X : Nat → Prop) (Inv : σ → World → Prop) (O : OfSpec f g cap B Bo Bx X Inv)
    (v : Int) (nm : ByteArray) (n c : Nat) (A : Option Addr) (s : σ) (w : World) (l : Fo) (h0 : 0 ≤ v) (h1 : v ≤ 1099511627776) (hI : Inv s w) (hB : Bx ≤ w.heap.size) :
    Calls Tryd.prog 82 #[tv (0, v, nm) A n c, .func (.func g) #[] cap] w (RebDoes f Bo X Inv s (0, v, nm) l w) := by
  have eg := O.enters
  have OO := Lib.hid O
  have HI := Lib.hid hI
  clear O hI
  unfold RebDoes Tm.rebT
  rw [if_pos rfl]
  go_enter Tryd.func82, Tryd.ntmps82
  go_wp2_with fail
  refine (OO.out.gives s v _ (OO.out.keeps s w _ HI.out (by simp; omega) (fun k hk => ?_)) (by simp; omega) h0 h1).mono ?_
  · exact (two_boxes w _ _).block k (by omega)
  rintro e w1 ⟨A1, c1, rfl, ha, hi, ho⟩
  have hw1 : w.heap.size + 1 < w1.heap.size := by have := ho.size; simp at this; omega
  have hbk : w1.heap[w.heap.size + 1]? = ((w.alloc (.cells #[.int .i64 0, .int .i64 v, .string nm, .slice A n c] 24)).alloc (.cells #[.int .i64 0, .int .i64 0, .string ByteArray.empty, .slice none 0 0] 24)).heap[w.heap.size + 1]? :=
    ho.block _ (by simp) (fun hx => by have := (OO.out.own _ hx).2; omega)
  have ht : TermAt w1 (w.heap.size + 1) zp none 0 0 := (by simpa using TermAt.new (w.alloc _) zp none 0 0 24 : TermAt ((w.alloc _).alloc _) (w.heap.size + 1) zp none 0 0).same hbk
  have hs : SoftAt w1 (w.heap.size + 1) := (by simpa using SoftAt.new (w.alloc _) _ 24 : SoftAt ((w.alloc _).alloc _) (w.heap.size + 1)).same hbk
  have r0 := ht.kind
  have r1 := ht.num
  have r2 := ht.name
  have r3 := ht.args
  have q0 := hs.s0
  have q1 := hs.s1
  have q2 := hs.s2
  have q3 := hs.s3
  have HA := Lib.hid ha
  have HI1 := Lib.hid hi
  have HO := Lib.hid ho
  clear ha hi ho ht hs hbk
  obtain ⟨m1, hm1⟩ : ∃ m1, m1 = Tm.len (f s v).2.2 := ⟨_, rfl⟩
  rw [← hm1]
  have HM := Lib.hid hm1
  clear hm1
  go_wp2_with fail
  have h4 : Four w1 (w.heap.size + 1) 0 := ⟨by rw [r0]; rfl, by rw [show 0 + 1 = 1 from rfl, r1]; rfl, by rw [show 0 + 2 = 2 from rfl, r2]; rfl, by rw [show 0 + 3 = 3 from rfl, r3]; rfl⟩
  show bodyPost _ _ _ _ _ (set4 w1 (w.heap.size + 1) 0 (f s v).2.1 A1 m1 c1)
  have g1 := set4_term w1 (w.heap.size + 1) (f s v).2.1 A1 m1 c1 h4
  have g2 := set4_size w1 (w.heap.size + 1) 0 (f s v).2.1 A1 m1 c1
  have g3 := set4_block w1 (w.heap.size + 1) 0 (f s v).2.1 A1 m1 c1
  have g4 : Only X w (set4 w1 (w.heap.size + 1) 0 (f s v).2.1 A1 m1 c1) := set4_only _ _ _ _ _ _ ((((Only.refl X w).alloc _).alloc _).trans HO.out) (by omega)
  generalize set4 w1 (w.heap.size + 1) 0 (f s v).2.1 A1 m1 c1 = w2 at g1 g2 g3 g4 ⊢
  refine bodyPost_ret (term_result (q := 4) rfl _ _ (w.heap.size + 1) (f s v).2.1 A1 m1 c1 rfl g1) rfl ?_
  have hlo := OO.out.lo
  have hlo2 := OO.out.lo2
  refine ⟨A1, c1, by rw [HM.out], ?_, ?_, g4⟩
  · refine (HA.out.keep (w' := w2) fun b hb => g3 b ?_).mono fun b hb => ?_
    · have := hb.1; simp at this; omega
    · have := hb.2; have := hb.1; simp at this; omega
  · exact OO.out.keeps _ _ _ HI1.out (by omega) fun k hk => g3 k (by omega)

theorem term_info3 : (Tryd.prog.info? 24).map (fun i => (i.zero, i.size, i.bytes)) = some (some (tv zp none 0 0), 4, 56) := by kernel_rfl

/-- A node that is no variable and no structure is copied. -/
theorem rebuilt_leaf {σ : Type} (f : σ → Int → σ × Pay × Fo) (g : Nat) (cap : Array Value) (B Bo Bx : Nat) (X : Nat → Prop) (Inv : σ → World → Prop) (O : OfSpec f g cap B Bo Bx X Inv)
    (k v : Int) (nm : ByteArray) (c : Nat) (A : Option Addr) (s : σ) (w : World) (h0 : ¬ k = 0) (h1 : ¬ k = 3) (hI : Inv s w) (hB : Bx ≤ w.heap.size) :
    Calls Tryd.prog 82 #[tv (k, v, nm) A 0 c, .func (.func g) #[] cap] w (RebDoes f Bo X Inv s (k, v, nm) .nil w) := by
  have OO := Lib.hid O
  have HI := Lib.hid hI
  clear O hI
  unfold RebDoes Tm.rebT
  rw [if_neg h0]
  go_enter Tryd.func82, Tryd.ntmps82
  go_wp2_with fail
  have g0 := two_boxes w
  have g1 : ∀ o1, TermAt ((w.alloc o1).alloc (.cells #[.int .i64 k, .int .i64 v, .string nm, .slice none 0 0] 24)) (w.heap.size + 1) (k, v, nm) none 0 0 := fun o1 => by simpa using TermAt.new (w.alloc o1) (k, v, nm) none 0 0 24
  refine bodyPost_ret (term_result (q := 4) rfl _ _ (w.heap.size + 1) (k, v, nm) none 0 0 rfl (g1 _)) rfl ?_
  exact ⟨none, 0, rfl, ArgsIn.nil _ _ _, OO.out.keeps s w _ HI.out (by simp; omega) (fun j hj => (g0 _ _).block j (by omega)), Only.of_below (g0 _ _)⟩

end Go.Proofs.YtcjakmafojbhlaaDoor
namespace Go.Proofs.YtcjakmafojbhlaaDoor
set_option linter.unusedVariables false
set_option linter.unusedSimpArgs false
open Go.RowKit

section
variable {ops : Array Oper} {Q : Exit → Act → World → Prop} {E : Nat → Kd} {D : Nat → Nat} {base : Nat → Option Kd} {N : Nat}

/-- What operation i finds in an operand. -/
def Opd (ops : Array Oper) (E : Nat → Kd) (D : Nat → Nat) (base : Nat → Option Kd) (N i : Nat) (x : Operand) (k : Kd) : Prop := ∀ a w, Ctx ops E D base N i a w → k.R (a.eval x) w
theorem Opd.const {i : Nat} (v : Value) : Opd ops E D base N i (.const v) (.val v) := fun _ _ _ => rfl
theorem Opd.dep {i : Nat} (j : Nat) {t : Nat} {k : Kd} (ht : D j = t) (hk : E j = k) (hj : (ops[i]?).map (fun o => decide (j < i) && o.after.any fun e => e.on == j) = some true) : Opd ops E D base N i (.tmp t) k := by
  intro a w h
  subst ht
  subst hk
  cases ho : ops[i]? with
  | none => rw [ho] at hj; cases hj
  | some o =>
    rw [ho] at hj
    have h2 := Option.some.inj hj
    rw [Bool.and_eq_true, decide_eq_true_eq] at h2
    exact h.deps j o ho h2.1 h2.2
theorem Opd.of_base {i : Nat} (t : Nat) {k : Kd} (hk : base t = some k) : Opd ops E D base N i (.tmp t) k := fun a w h => h.base t k hk
theorem op_of {i : Nat} {o : Oper} {x : Op} (h : ops[i]? = some o) (hop : (ops[i]?).map (·.op) = some x) : o.op = x := by rw [h] at hop; exact Option.some.inj hop
/-- An operation that leaves the world alone. -/
theorem step_still {i : Nat} {x : Op} {k : Kd} (hop : (ops[i]?).map (·.op) = some x) (hE : E i = k)
    (h : ∀ a w, Ctx ops E D base N i a w → ∀ dst ty pos after guard, ∃ v, (execOp a.eval ⟨dst, x, ty, pos, after, guard⟩).run Tryd.prog w = .ok (.value v) w ∧ k.R v w) : Step Tryd.prog ops Q E D base N i := by
  intro o ho a w hc K hK
  have hx := op_of ho hop
  obtain ⟨dst, op, ty, pos, after, guard⟩ := o
  have hx' : op = x := hx
  subst hx'
  obtain ⟨v, hr, hv⟩ := h a w hc dst ty pos after guard
  unfold Oper.wp
  rw [hr]
  exact hK v w (hE ▸ hv) (Below.refl _ _)
theorem step_move {i : Nat} {x : Operand} {k : Kd} (hop : (ops[i]?).map (·.op) = some (.move x)) (hx : Opd ops E D base N i x k) (hE : E i = k) : Step Tryd.prog ops Q E D base N i :=
  step_still hop hE fun a w hc _ _ _ _ _ => ⟨a.eval x, rfl, hx a w hc⟩
theorem step_assign {i : Nat} {x : Operand} {k : Kd} (hop : (ops[i]?).map (·.op) = some (.assign x)) (hx : Opd ops E D base N i x k) (hE : E i = k) : Step Tryd.prog ops Q E D base N i :=
  step_still hop hE fun a w hc _ _ _ _ _ => ⟨a.eval x, rfl, hx a w hc⟩
theorem step_pick {i : Nat} {c x : Operand} {k : Kd} (hop : (ops[i]?).map (·.op) = some (.pick c x (.const (.bool false)))) (hc : Opd ops E D base N i c (.val (.bool true))) (hx : Opd ops E D base N i x k) (hE : E i = k) : Step Tryd.prog ops Q E D base N i :=
  step_still hop hE fun a w h dst ty pos after guard => by
    have e : a.eval c = .bool true := hc a w h
    refine ⟨a.eval x, ?_, hx a w h⟩
    show ((do pure (Next.value (if ← asBool (a.eval c) then a.eval x else a.eval (.const (.bool false)))) : Sem Next)).run _ w = _
    rw [e]
    rfl
theorem step_not {i : Nat} {x : Operand} {b : Bool} (hop : (ops[i]?).map (·.op) = some (.unOp .not 4 x)) (hx : Opd ops E D base N i x (.val (.bool b))) (hE : E i = .val (.bool (!b))) : Step Tryd.prog ops Q E D base N i :=
  step_still hop hE fun a w h dst ty' pos after guard => by
    have e : a.eval x = .bool b := hx a w h
    refine ⟨.bool (!b), ?_, rfl⟩
    unfold execOp
    simp only [e]
    go_simp
theorem step_eq_int {i : Nat} {x y : Operand} {m n : Int} (hop : (ops[i]?).map (·.op) = some (.binOp .eql 3 x y 3)) (hx : Opd ops E D base N i x (.val (.int .i64 m))) (hy : Opd ops E D base N i y (.val (.int .i64 n))) (hE : E i = .val (.bool (m == n))) : Step Tryd.prog ops Q E D base N i :=
  step_still hop hE fun a w h dst ty' pos after guard => by
    have e : a.eval x = .int .i64 m := hx a w h
    have e' : a.eval y = .int .i64 n := hy a w h
    refine ⟨.bool (m == n), ?_, rfl⟩
    unfold execOp
    simp only [e, e']
    go_simp
theorem step_eq_int64 {i : Nat} {x y : Operand} {m n : Int} (hop : (ops[i]?).map (·.op) = some (.binOp .eql 2 x y 2)) (hx : Opd ops E D base N i x (.val (.int .i64 m))) (hy : Opd ops E D base N i y (.val (.int .i64 n))) (hE : E i = .val (.bool (m == n))) : Step Tryd.prog ops Q E D base N i :=
  step_still hop hE fun a w h dst ty' pos after guard => by
    have e : a.eval x = .int .i64 m := hx a w h
    have e' : a.eval y = .int .i64 n := hy a w h
    refine ⟨.bool (m == n), ?_, rfl⟩
    unfold execOp
    simp only [e, e']
    go_simp
theorem step_eq_err {i : Nat} {x y : Operand} {m n : Int} (hop : (ops[i]?).map (·.op) = some (.binOp .eql 29 x y 29)) (hx : Opd ops E D base N i x (.val (.int .i64 m))) (hy : Opd ops E D base N i y (.val (.int .i64 n))) (hE : E i = .val (.bool (m == n))) : Step Tryd.prog ops Q E D base N i :=
  step_still hop hE fun a w h dst ty' pos after guard => by
    have e : a.eval x = .int .i64 m := hx a w h
    have e' : a.eval y = .int .i64 n := hy a w h
    refine ⟨.bool (m == n), ?_, rfl⟩
    unfold execOp
    simp only [e, e']
    go_simp
theorem step_len_row {i : Nat} {x : Operand} {F : Fo} (hop : (ops[i]?).map (·.op) = some (.call { callee := .builtin .len, args := #[x], argTypes := #[22] })) (hx : Opd ops E D base N i x (.row F)) (hE : E i = .val (.int .i64 (Tm.len F))) : Step Tryd.prog ops Q E D base N i :=
  step_still hop hE fun a w h dst ty' pos after guard => by
    obtain ⟨A, c, e, _⟩ := hx a w h
    refine ⟨.int .i64 (Tm.len F), ?_, rfl⟩
    unfold execOp
    simp only [resolve, List.map_toArray, List.map_cons, List.map_nil, e]
    go_simp
theorem step_load_int {i : Nat} {x : Operand} {n : Int} (hop : (ops[i]?).map (·.op) = some (.load 2 x)) (hx : Opd ops E D base N i x (.ptrI n)) (hE : E i = .val (.int .i64 n)) : Step Tryd.prog ops Q E D base N i :=
  step_still hop hE fun a w h dst ty' pos after guard => by
    obtain ⟨ad, e, hb, hc⟩ := hx a w h
    refine ⟨.int .i64 n, ?_, rfl⟩
    unfold execOp
    simp only [e]
    go_simp
theorem step_load_term {i : Nat} {x : Operand} {p : Pay} {l : Fo} (hop : (ops[i]?).map (·.op) = some (.load 24 x)) (hx : Opd ops E D base N i x (.ptrT p l)) (hE : E i = .term p l) : Step Tryd.prog ops Q E D base N i :=
  step_still hop hE fun a w h dst ty' pos after guard => by
    obtain ⟨b, o, A, c, e, hb, hn⟩ := hx a w h
    refine ⟨tv p A (Tm.len l) c, ?_, A, c, rfl, hn.inn⟩
    have h0 := hn.kind
    have h1 := hn.num
    have h2 := hn.name
    have h3 := hn.args
    generalize Tm.len l = n at h3
    unfold execOp
    simp only [e]
    go_simp

theorem row_new (w : World) (vs : List Value) (F : Fo) (n : Nat) (t : TypeId) (hv : Vals (fun b => b < w.heap.size) w vs F) (hn : Tm.len F = n) (h63 : n ≤ 1000) :
    (Kd.row F).R (.slice (some ⟨w.heap.size, 0, none⟩) n n) (w.alloc (.cells (tcells vs).toArray t)) := by
  subst hn
  refine ⟨some ⟨w.heap.size, 0, none⟩, Tm.len F, rfl, ?_⟩
  have hl := Vals.len vs F hv
  have hb := alloc_new w (.cells (tcells vs).toArray t)
  have hv' : Vals (fun b => b < w.heap.size + 1) (w.alloc (.cells (tcells vs).toArray t)) vs F := Vals.mono (fun b h => Nat.lt_succ_of_lt h) vs F (Vals.keep (fun b h => Below.heap_alloc w _ b h) vs F hv)
  have := Vals.args (b := w.heap.size) (o := 0) (by omega) hv' (by omega) (fun j u hu => by
    rw [Nat.zero_add]
    rw [cell_of_row _ _ _ _ _ _ hb]
    simpa using hu)
  rw [hl] at this
  have hs : (w.alloc (.cells (tcells vs).toArray t)).heap.size = w.heap.size + 1 := World.size_alloc _ _
  rw [hs]
  exact this
theorem step_call {i : Nat} {f : Nat} {xs : Array Operand} {tys : Array TypeId} (hop : (ops[i]?).map (·.op) = some (.call { callee := .value (.func f), args := xs, argTypes := tys })) (he : ∀ (args : Array Value) (w : World), (callFunc f args).run Tryd.prog w = .ok (.enter f args) w)
    (hc : ∀ a w, Ctx ops E D base N i a w → Calls Tryd.prog f (xs.map a.eval) w fun e w' => ∃ v, e = .returned v ∧ (E i).R v w' ∧ Below w.heap.size w w') : Step Tryd.prog ops Q E D base N i := by
  intro o ho a w h K hK
  have hxo := op_of ho hop
  obtain ⟨dst, op, ty, pos, after, guard⟩ := o
  have hx' : op = _ := hxo
  subst hx'
  have hrun : (execOp a.eval ⟨dst, .call { callee := .value (.func f), args := xs, argTypes := tys }, ty, pos, after, guard⟩).run Tryd.prog w = .ok (.enter f (xs.map a.eval)) w := by
    have h1 : (execOp a.eval ⟨dst, .call { callee := .value (.func f), args := xs, argTypes := tys }, ty, pos, after, guard⟩).run Tryd.prog w = (callFunc f ((#[] ++ xs.map a.eval) ++ #[])).run Tryd.prog w := rfl
    rw [h1, Array.empty_append, Array.append_empty]
    exact he _ w
  unfold Oper.wp
  rw [hrun]
  show Calls _ _ _ _ _
  refine (hc a w h).mono ?_
  rintro e w' ⟨v, rfl, hv, hb⟩
  exact hK v w' hv hb
/-- The state behind the first i operations. -/
structure Sq (E : Nat → Kd) (D : Nat → Nat) (base : Nat → Option Kd) (N : Nat) (w0 : World) (i : Nat) (a : Act) (w : World) : Prop where
  size : a.tmps.size = N
  defers : a.defers = []
  world : Below w0.heap.size w0 w
  base : ∀ t k, base t = some k → k.R (a.tmps.getD t undef) w
  done : ∀ j, j < i → (E j).R (a.tmps.getD (D j) undef) w
/-- An operation waits for none behind it, is unguarded, and has its own slot. -/
def goodSeq (D : Nat → Nat) (base : Nat → Option Kd) (N i : Nat) (o : Oper) : Bool :=
  o.guard.isNone && (o.dst == some (D i)) && decide (D i < N) && (base (D i)).isNone && ((List.range i).all fun j => D j != D i)
theorem goodSeq_spec {i : Nat} {o : Oper} (h : goodSeq D base N i o = true) : o.guard = none ∧ o.dst = some (D i) ∧ D i < N ∧ base (D i) = none ∧ ∀ j, j < i → D j ≠ D i := by
  unfold goodSeq at h
  simp only [Bool.and_eq_true, decide_eq_true_eq, beq_iff_eq, Option.isNone_iff_eq_none] at h
  obtain ⟨⟨⟨⟨h2, h3⟩, h4⟩, h5⟩, h6⟩ := h
  refine ⟨h2, h3, h4, h5, fun j hj => ?_⟩
  · have := List.all_eq_true.1 h6 j (List.mem_range.2 hj)
    simpa using this
theorem wanted_free {o : Oper} (h : o.guard = none) (y : Nat → Option Bool) : Region.wanted o y = true := by
  unfold Region.wanted
  rw [h]
theorem put_self {a : Act} {t : Nat} {v : Value} (h : t < a.tmps.size) : (a.put (some t) v).tmps.getD t undef = v := by
  show (a.tmps.setIfInBounds t v).getD t undef = _
  simp [h]
theorem put_other {a : Act} {t s : Nat} {v : Value} (h : s ≠ t) : (a.put (some t) v).tmps.getD s undef = a.tmps.getD s undef := by
  show (a.tmps.setIfInBounds t v).getD s undef = _
  simp [Array.getElem?_setIfInBounds_ne (Ne.symm h)]
theorem put_size {a : Act} {t : Option Nat} {v : Value} : (a.put t v).tmps.size = a.tmps.size := by
  cases t with
  | none => rfl
  | some t => show (a.tmps.setIfInBounds t v).size = _; simp
theorem Sq.put {w0 w w' : World} {i : Nat} {a : Act} {v : Value} (st : Sq E D base N w0 i a w) (hD : D i < N) (hb0 : base (D i) = none) (hne : ∀ j, j < i → D j ≠ D i) (hv : (E i).R v w') (hb : Below w.heap.size w w') : Sq E D base N w0 (i + 1) (a.put (some (D i)) v) w' := by
  refine ⟨put_size.trans st.size, st.defers, st.world.trans (hb.mono st.world.size), fun t k hk => ?_, fun j hj => ?_⟩
  · rw [put_other (fun e => by subst e; rw [hk] at hb0; cases hb0)]
    exact Kd.keep (st.base t k hk) hb
  · by_cases hji : j = i
    · subst hji
      rw [put_self (by rw [st.size]; exact hD)]
      exact hv
    · rw [put_other (hne j (by omega))]
      exact Kd.keep (st.done j (by omega)) hb
theorem seq_one {w0 w : World} {i : Nat} {rest : List Nat} {a : Act} (hs : Step Tryd.prog ops Q E D base N i) (hg : (ops[i]?).map (goodSeq D base N i) = some true) (st : Sq E D base N w0 i a w)
    (h : ∀ a' w', Sq E D base N w0 (i + 1) a' w' → wpOps Tryd.prog ops Q rest a' w') : wpOps Tryd.prog ops Q (i :: rest) a w := by
  cases ho : ops[i]? with
  | none => rw [ho] at hg; cases hg
  | some o =>
    rw [ho] at hg
    obtain ⟨h2, h3, h4, h5, h6⟩ := goodSeq_spec (Option.some.inj hg)
    simp only [wpOps, ho, wanted_free h2, if_true]
    refine .inl (hs o ho a w ⟨st.size, st.base, fun j o' ho' hji _ => st.done j hji⟩ _ fun v w' hv hb => ?_)
    · rw [h3]
      exact h _ _ (st.put h4 h5 h6 hv hb)
theorem Sq.skip {w0 w : World} {i : Nat} {a : Act} (st : Sq E D base N w0 i a w) (hE : E i = .any) : Sq E D base N w0 (i + 1) a w :=
  ⟨st.size, st.defers, st.world, st.base, fun j hj => by
    by_cases hji : j = i
    · subst hji; rw [hE]; trivial
    · exact st.done j (by omega)⟩
/-- What the store of a term into a new variable does. -/
theorem box_store (w : World) (p : Pay) (A : Option Addr) (n c : Nat) :
    (Instr.storeAt 24 (.pointer (some ⟨w.heap.size, 0, none⟩)) (tv p A n c)).run Tryd.prog (w.alloc (.cells #[.int .i64 0, .int .i64 0, .string ⟨#[]⟩, .slice none 0 0] 24)) = .ok () (w.alloc (.cells #[.int .i64 p.1, .int .i64 p.2.1, .string p.2.2, .slice A n c] 24)) := by
  go_simp
theorem box_alloc (w : World) : (Instr.alloc 24 true (.tuple #[])).run Tryd.prog w = .ok (.pointer (some ⟨w.heap.size, 0, none⟩)) (w.alloc (.cells #[.int .i64 0, .int .i64 0, .string ⟨#[]⟩, .slice none 0 0] 24)) := by
  go_simp
theorem box_R (w : World) (p : Pay) (l : Fo) (A : Option Addr) (c : Nat) (ha : ArgsB w w.heap.size A (Tm.len l) l) : (Kd.ptrT p l).R (.pointer (some ⟨w.heap.size, 0, none⟩)) (w.alloc (.cells #[.int .i64 p.1, .int .i64 p.2.1, .string p.2.2, .slice A (Tm.len l) c] 24)) := by
  have ht := TermAt.new w p A (Tm.len l) c 24
  refine ⟨w.heap.size, 0, A, c, rfl, by rw [World.size_alloc]; omega, ⟨ht.kind, ht.num, ht.name, ht.args, ?_⟩⟩
  exact (ha.keep fun b (hb : b < w.heap.size) => Below.heap_alloc w _ b hb).mono fun b (hb : b < w.heap.size) => (by show b < _; rw [World.size_alloc]; omega)
theorem wp_alloc_op {a : Act} {w : World} {dst : Option Tmp} {ty : TypeId} {pos : String} {after : Array Edge} {guard : Option (Nat × Bool)} {K : Act → World → Prop} (h : K (a.put dst (.pointer (some ⟨w.heap.size, 0, none⟩))) (w.alloc (.cells #[.int .i64 0, .int .i64 0, .string ⟨#[]⟩, .slice none 0 0] 24))) :
    Oper.wp Tryd.prog ⟨dst, .alloc 24, ty, pos, after, guard⟩ a w K Q := by
  have hrun : (execOp a.eval ⟨dst, .alloc 24, ty, pos, after, guard⟩).run Tryd.prog w = .ok (.value (.pointer (some ⟨w.heap.size, 0, none⟩))) (w.alloc (.cells #[.int .i64 0, .int .i64 0, .string ⟨#[]⟩, .slice none 0 0] 24)) := by
    unfold execOp
    go_simp
  unfold Oper.wp
  rw [hrun]
  exact h
theorem wp_assign_op {a : Act} {w : World} {x : Operand} {dst : Option Tmp} {ty : TypeId} {pos : String} {after : Array Edge} {guard : Option (Nat × Bool)} {K : Act → World → Prop} (h : K (a.put dst (a.eval x)) w) :
    Oper.wp Tryd.prog ⟨dst, .assign x, ty, pos, after, guard⟩ a w K Q := h
theorem wp_store_op {a : Act} {w : World} {x y : Operand} {ty : TypeId} {pos : String} {after : Array Edge} {guard : Option (Nat × Bool)} {K : Act → World → Prop} (p : Pay) (A : Option Addr) (n c : Nat) (hx : a.eval x = .pointer (some ⟨w.heap.size, 0, none⟩)) (hy : a.eval y = tv p A n c)
    (h : K a (w.alloc (.cells #[.int .i64 p.1, .int .i64 p.2.1, .string p.2.2, .slice A n c] 24))) :
    Oper.wp Tryd.prog ⟨none, .store 24 x y, ty, pos, after, guard⟩ a (w.alloc (.cells #[.int .i64 0, .int .i64 0, .string ⟨#[]⟩, .slice none 0 0] 24)) K Q := by
  have hrun : (execOp a.eval ⟨none, .store 24 x y, ty, pos, after, guard⟩).run Tryd.prog (w.alloc (.cells #[.int .i64 0, .int .i64 0, .string ⟨#[]⟩, .slice none 0 0] 24)) = .ok .skip (w.alloc (.cells #[.int .i64 p.1, .int .i64 p.2.1, .string p.2.2, .slice A n c] 24)) := by
    unfold execOp
    simp only [hx, hy]
    go_simp
  unfold Oper.wp
  rw [hrun]
  exact h
theorem region_seq {id : Nat} {w0 w : World} {a : Act} (n : Nat) (hn : ops.size = n) (h : wpOps Tryd.prog ops Q (List.range n) a w) : (Code.region id ops false).wp Tryd.prog Q a w := by
  subst hn
  exact wp_region h
theorem step_box {i : Nat} {x : Operand} {p : Pay} {l : Fo} (hop : (ops[i]?).map (·.op) = some (.box 24 x)) (hx : Opd ops E D base N i x (.term p l)) (hE : E i = .ptrT p l) : Step Tryd.prog ops Q E D base N i := by
  intro o ho a w hc K hK
  have hxo := op_of ho hop
  obtain ⟨dst, op, ty, pos, after, guard⟩ := o
  have hx' : op = _ := hxo
  subst hx'
  obtain ⟨A, c, e, ha⟩ := hx a w hc
  have hr := box_R w p l A c ha
  have hrun : (execOp a.eval ⟨dst, .box 24 x, ty, pos, after, guard⟩).run Tryd.prog w = .ok (.value (.pointer (some ⟨w.heap.size, 0, none⟩))) (w.alloc (.cells #[.int .i64 p.1, .int .i64 p.2.1, .string p.2.2, .slice A (Tm.len l) c] 24)) := by
    generalize Tm.len l = n at e
    unfold execOp
    simp only [e]
    go_simp
  unfold Oper.wp
  rw [hrun]
  exact hK _ _ (hE ▸ hr) ((Below.refl _ _).alloc (Nat.le_refl _) _)
theorem step_eq_bool {i : Nat} {x y : Operand} {b : Bool} (hop : (ops[i]?).map (·.op) = some (.binOp .eql 4 x y 4)) (hx : Opd ops E D base N i x (.val (.bool b))) (hy : Opd ops E D base N i y (.val (.bool b))) (hE : E i = .val (.bool true)) : Step Tryd.prog ops Q E D base N i :=
  step_still hop hE fun a w h dst ty' pos after guard => by
    have e : a.eval x = .bool b := hx a w h
    have e' : a.eval y = .bool b := hy a w h
    refine ⟨.bool true, ?_, rfl⟩
    unfold execOp
    simp only [e, e']
    cases b <;> go_simp
theorem step_eqs_int {i : Nat} {x y : Operand} {n : Int} (hop : (ops[i]?).map (·.op) = some (.binOp .eql 3 x y 3)) (hx : Opd ops E D base N i x (.val (.int .i64 n))) (hy : Opd ops E D base N i y (.val (.int .i64 n))) (hE : E i = .val (.bool true)) : Step Tryd.prog ops Q E D base N i :=
  step_eq_int hop hx hy (by rw [hE]; simp)
theorem step_eqs_err {i : Nat} {x y : Operand} {n : Int} (hop : (ops[i]?).map (·.op) = some (.binOp .eql 29 x y 29)) (hx : Opd ops E D base N i x (.val (.int .i64 n))) (hy : Opd ops E D base N i y (.val (.int .i64 n))) (hE : E i = .val (.bool true)) : Step Tryd.prog ops Q E D base N i :=
  step_eq_err hop hx hy (by rw [hE]; simp)
theorem step_pick_no {i : Nat} {c x y : Operand} {k : Kd} (hop : (ops[i]?).map (·.op) = some (.pick c x y)) (hc : Opd ops E D base N i c (.val (.bool false))) (hy : Opd ops E D base N i y k) (hE : E i = k) : Step Tryd.prog ops Q E D base N i :=
  step_still hop hE fun a w h dst ty pos after guard => by
    have e : a.eval c = .bool false := hc a w h
    refine ⟨a.eval y, ?_, hy a w h⟩
    show ((do pure (Next.value (if ← asBool (a.eval c) then a.eval x else a.eval y)) : Sem Next)).run _ w = _
    rw [e]
    rfl
theorem step_rvalid {i : Nat} {x : Operand} {p : Pay} {l : Fo} {b : Bool} (hop : (ops[i]?).map (·.op) = some (.call { callee := .value (.func 31), args := #[x], argTypes := #[24] })) (hx : Opd ops E D base N i x (.term p l)) (hb : Tm.validB p l = b) (hE : E i = .val (.bool b)) : Step Tryd.prog ops Q E D base N i :=
  step_call hop (fun _ _ => by kernel_rfl) fun a w h => by
    obtain ⟨A, c, e, ha⟩ := hx a w h
    have e1 : (#[x] : Array Operand).map a.eval = #[tv p A (Tm.len l) c] := by rw [← e]; simp
    rw [e1]
    exact (rvalid_any p l A c w.heap.size w ha (Nat.le_refl _)).mono fun e w' ⟨he, hbl⟩ => ⟨_, he, by rw [hE, ← hb]; rfl, hbl⟩
/-- At the end: the result is a slot. -/
theorem law_ret {fn : Func} {t : Tmp} (hres : fn.results = #[.tmp t]) {R : Ending → World → Prop} {a : Act} {w : World} (h : (Kd.val (.bool true)).R (a.tmps.getD t undef) w) (hd : a.defers = []) (hR : R (.returned (.bool true)) w) : Code.ret.wp Tryd.prog (bodyPost Tryd.prog fn R) a w := by
  refine wp_ret ?_
  have h' : a.tmps.getD t undef = .bool true := h
  refine bodyPost_ret (v := .bool true) ?_ hd hR
  rw [← h']
  exact results_tmp hres a.tmps Tryd.prog w
theorem step_pick_yes {i : Nat} {c x y : Operand} {k : Kd} (hop : (ops[i]?).map (·.op) = some (.pick c x y)) (hc : Opd ops E D base N i c (.val (.bool true))) (hx : Opd ops E D base N i x k) (hE : E i = k) : Step Tryd.prog ops Q E D base N i :=
  step_still hop hE fun a w h dst ty pos after guard => by
    have e : a.eval c = .bool true := hc a w h
    refine ⟨a.eval x, ?_, hx a w h⟩
    show ((do pure (Next.value (if ← asBool (a.eval c) then a.eval x else a.eval y)) : Sem Next)).run _ w = _
    rw [e]
    rfl
theorem step_eqb_int {i : Nat} {x y : Operand} {m n : Int} {b : Bool} (hop : (ops[i]?).map (·.op) = some (.binOp .eql 3 x y 3)) (hx : Opd ops E D base N i x (.val (.int .i64 m))) (hy : Opd ops E D base N i y (.val (.int .i64 n))) (hb : (m == n) = b) (hE : E i = .val (.bool b)) : Step Tryd.prog ops Q E D base N i :=
  step_eq_int hop hx hy (by rw [hE, hb])
theorem step_eqb_int64 {i : Nat} {x y : Operand} {m n : Int} {b : Bool} (hop : (ops[i]?).map (·.op) = some (.binOp .eql 2 x y 2)) (hx : Opd ops E D base N i x (.val (.int .i64 m))) (hy : Opd ops E D base N i y (.val (.int .i64 n))) (hb : (m == n) = b) (hE : E i = .val (.bool b)) : Step Tryd.prog ops Q E D base N i :=
  step_eq_int64 hop hx hy (by rw [hE, hb])
theorem step_eqb_err {i : Nat} {x y : Operand} {m n : Int} {b : Bool} (hop : (ops[i]?).map (·.op) = some (.binOp .eql 29 x y 29)) (hx : Opd ops E D base N i x (.val (.int .i64 m))) (hy : Opd ops E D base N i y (.val (.int .i64 n))) (hb : (m == n) = b) (hE : E i = .val (.bool b)) : Step Tryd.prog ops Q E D base N i :=
  step_eq_err hop hx hy (by rw [hE, hb])
theorem step_lt_int {i : Nat} {x y : Operand} {m n : Int} {b : Bool} (hop : (ops[i]?).map (·.op) = some (.binOp .lss 3 x y 3)) (hx : Opd ops E D base N i x (.val (.int .i64 m))) (hy : Opd ops E D base N i y (.val (.int .i64 n))) (hb : (decide (m < n)) = b) (hE : E i = .val (.bool b)) : Step Tryd.prog ops Q E D base N i :=
  step_still hop hE fun a w h dst ty' pos after guard => by
    have e : a.eval x = .int .i64 m := hx a w h
    have e' : a.eval y = .int .i64 n := hy a w h
    refine ⟨.bool b, ?_, rfl⟩
    rw [← hb]
    unfold execOp
    simp only [e, e']
    go_simp
theorem step_lt_int64 {i : Nat} {x y : Operand} {m n : Int} {b : Bool} (hop : (ops[i]?).map (·.op) = some (.binOp .lss 2 x y 2)) (hx : Opd ops E D base N i x (.val (.int .i64 m))) (hy : Opd ops E D base N i y (.val (.int .i64 n))) (hb : (decide (m < n)) = b) (hE : E i = .val (.bool b)) : Step Tryd.prog ops Q E D base N i :=
  step_still hop hE fun a w h dst ty' pos after guard => by
    have e : a.eval x = .int .i64 m := hx a w h
    have e' : a.eval y = .int .i64 n := hy a w h
    refine ⟨.bool b, ?_, rfl⟩
    rw [← hb]
    unfold execOp
    simp only [e, e']
    go_simp
theorem step_gt_int {i : Nat} {x y : Operand} {m n : Int} {b : Bool} (hop : (ops[i]?).map (·.op) = some (.binOp .gtr 3 x y 3)) (hx : Opd ops E D base N i x (.val (.int .i64 m))) (hy : Opd ops E D base N i y (.val (.int .i64 n))) (hb : (decide (n < m)) = b) (hE : E i = .val (.bool b)) : Step Tryd.prog ops Q E D base N i :=
  step_still hop hE fun a w h dst ty' pos after guard => by
    have e : a.eval x = .int .i64 m := hx a w h
    have e' : a.eval y = .int .i64 n := hy a w h
    refine ⟨.bool b, ?_, rfl⟩
    rw [← hb]
    unfold execOp
    simp only [e, e']
    go_simp
theorem step_gt_int64 {i : Nat} {x y : Operand} {m n : Int} {b : Bool} (hop : (ops[i]?).map (·.op) = some (.binOp .gtr 2 x y 2)) (hx : Opd ops E D base N i x (.val (.int .i64 m))) (hy : Opd ops E D base N i y (.val (.int .i64 n))) (hb : (decide (n < m)) = b) (hE : E i = .val (.bool b)) : Step Tryd.prog ops Q E D base N i :=
  step_still hop hE fun a w h dst ty' pos after guard => by
    have e : a.eval x = .int .i64 m := hx a w h
    have e' : a.eval y = .int .i64 n := hy a w h
    refine ⟨.bool b, ?_, rfl⟩
    rw [← hb]
    unfold execOp
    simp only [e, e']
    go_simp
theorem step_ne_int {i : Nat} {x y : Operand} {m n : Int} {b : Bool} (hop : (ops[i]?).map (·.op) = some (.binOp .neq 3 x y 3)) (hx : Opd ops E D base N i x (.val (.int .i64 m))) (hy : Opd ops E D base N i y (.val (.int .i64 n))) (hb : (m != n) = b) (hE : E i = .val (.bool b)) : Step Tryd.prog ops Q E D base N i :=
  step_still hop hE fun a w h dst ty' pos after guard => by
    have e : a.eval x = .int .i64 m := hx a w h
    have e' : a.eval y = .int .i64 n := hy a w h
    refine ⟨.bool b, ?_, rfl⟩
    rw [← hb]
    unfold execOp
    simp only [e, e']
    go_simp
theorem step_ne_int64 {i : Nat} {x y : Operand} {m n : Int} {b : Bool} (hop : (ops[i]?).map (·.op) = some (.binOp .neq 2 x y 2)) (hx : Opd ops E D base N i x (.val (.int .i64 m))) (hy : Opd ops E D base N i y (.val (.int .i64 n))) (hb : (m != n) = b) (hE : E i = .val (.bool b)) : Step Tryd.prog ops Q E D base N i :=
  step_still hop hE fun a w h dst ty' pos after guard => by
    have e : a.eval x = .int .i64 m := hx a w h
    have e' : a.eval y = .int .i64 n := hy a w h
    refine ⟨.bool b, ?_, rfl⟩
    rw [← hb]
    unfold execOp
    simp only [e, e']
    go_simp
theorem step_add {i : Nat} {x y : Operand} {m n s : Int} (hop : (ops[i]?).map (·.op) = some (.binOp .add 3 x y 3)) (hx : Opd ops E D base N i x (.val (.int .i64 m))) (hy : Opd ops E D base N i y (.val (.int .i64 n))) (hs : IntKind.i64.wrap (m + n) = s) (hE : E i = .val (.int .i64 s)) : Step Tryd.prog ops Q E D base N i :=
  step_still hop hE fun a w h dst ty' pos after guard => by
    have e : a.eval x = .int .i64 m := hx a w h
    have e' : a.eval y = .int .i64 n := hy a w h
    refine ⟨.int .i64 s, ?_, rfl⟩
    rw [← hs]
    unfold execOp
    simp only [e, e']
    go_simp
theorem step_row_at {i : Nat} {x y : Operand} {F l r : Fo} {k : Nat} {p : Pay} (hop : (ops[i]?).map (·.op) = some (.indexAddr 22 x y)) (hx : Opd ops E D base N i x (.row F)) (hy : Opd ops E D base N i y (.val (.int .i64 (k : Int)))) (hd : Tm.dropF F k = .node p l r) (hE : E i = .ptrT p l) : Step Tryd.prog ops Q E D base N i :=
  step_still hop hE fun a w h dst ty' pos after guard => by
    obtain ⟨A, c, e, ha⟩ := hx a w h
    have e' : a.eval y = .int .i64 (k : Int) := hy a w h
    have hk : k < Tm.len F := by
      have h1 := Tm.len_drop F k
      rw [hd] at h1
      have h2 : Tm.len (Fo.node p l r) = Tm.len r + 1 := rfl
      omega
    obtain ⟨b, o, p1, l1, r1, A1, c1, rfl, hb, hd', hn⟩ := ha.at hk
    rw [hd] at hd'
    cases hd'
    refine ⟨.pointer (some ⟨b, o + k * 4, none⟩), ?_, b, o + k * 4, A1, c1, rfl, hb, hn⟩
    generalize Tm.len F = n at e hk
    unfold execOp
    simp only [e, e']
    go_simp
theorem step_valid {i : Nat} {x : Operand} {p : Pay} {l : Fo} {b : Bool} (hop : (ops[i]?).map (·.op) = some (.call { callee := .value (.func 36), args := #[x], argTypes := #[24] })) (hx : Opd ops E D base N i x (.term p l)) (hb : Tm.validB p l = b) (hE : E i = .val (.bool b)) : Step Tryd.prog ops Q E D base N i :=
  step_call hop (fun _ _ => by kernel_rfl) fun a w h => by
    obtain ⟨A, c, e, ha⟩ := hx a w h
    have e1 : (#[x] : Array Operand).map a.eval = #[tv p A (Tm.len l) c] := by rw [← e]; simp
    rw [e1]
    exact (valid_any p l A c w.heap.size w ha (Nat.le_refl _)).mono fun e w' ⟨he, hbl⟩ => ⟨_, he, by rw [hE, ← hb]; rfl, hbl⟩
end
end Go.Proofs.YtcjakmafojbhlaaDoor
namespace Go.Proofs.YtcjakmafojbhlaaDoor
set_option linter.unusedVariables false
set_option linter.unusedSimpArgs false
open Go.RowKit

abbrev Env := List (Nat × Kd)
/-- What a slot holds: the first entry counts. -/
def look (env : Env) (t : Nat) : Option Kd := (env.find? fun e => e.1 == t).map (·.2)
theorem look_cons (d : Nat) (k : Kd) (env : Env) (t : Nat) : look ((d, k) :: env) t = if d == t then some k else look env t := by
  unfold look
  rw [List.find?_cons]
  cases h : d == t <;> rfl
structure Hold (N : Nat) (env : Env) (w0 : World) (a : Act) (w : World) : Prop where
  size : a.tmps.size = N
  defers : a.defers = []
  world : Below w0.heap.size w0 w
  slots : ∀ t k, look env t = some k → k.R (a.tmps.getD t undef) w
theorem Hold.get {N : Nat} {env : Env} {w0 w : World} {a : Act} (h : Hold N env w0 a w) (t : Nat) {k : Kd} (hk : look env t = some k) : k.R (a.tmps.getD t undef) w := h.slots t k hk
theorem Hold.put {N : Nat} {env : Env} {w0 w w' : World} {a : Act} {d : Nat} {k : Kd} {v : Value} (h : Hold N env w0 a w) (hd : d < N) (hv : k.R v w') (hb : Below w.heap.size w w') : Hold N ((d, k) :: env) w0 (a.put (some d) v) w' := by
  refine ⟨put_size.trans h.size, h.defers, h.world.trans (hb.mono h.world.size), fun t k' hk => ?_⟩
  rw [look_cons] at hk
  by_cases e : d = t
  · subst e
    rw [if_pos (by simp)] at hk
    cases hk
    rw [put_self (by rw [h.size]; exact hd)]
    exact hv
  · rw [if_neg (by simpa using e)] at hk
    rw [put_other (fun e' => e e'.symm)]
    exact Kd.keep (h.slots t k' hk) hb
/-- Only some slots are wanted on. -/
theorem Hold.keep {N : Nat} {env : Env} {w0 w : World} {a : Act} (h : Hold N env w0 a w) (ks : List Nat) : Hold N (ks.filterMap fun t => (look env t).map fun k => (t, k)) w0 a w := by
  refine ⟨h.size, h.defers, h.world, fun t k hk => h.slots t k ?_⟩
  unfold look at hk
  obtain ⟨e, he, rfl⟩ := Option.map_eq_some_iff.1 hk
  have h1 := List.find?_some he
  have h2 := List.mem_of_find?_eq_some he
  obtain ⟨t', _, h3⟩ := List.mem_filterMap.1 h2
  obtain ⟨k', h4, rfl⟩ := Option.map_eq_some_iff.1 h3
  have : t' = t := by simpa using h1
  subst this
  exact h4

section
variable {ops : Array Oper} {Q : Exit → Act → World → Prop} {N : Nat} {env : Env} {w0 w : World} {a : Act}

abbrev EnvStep (ops : Array Oper) (Q : Exit → Act → World → Prop) (N : Nat) (env : Env) (i : Nat) (k : Kd) : Prop := Step Tryd.prog ops Q (fun j => if j = i then k else .any) (fun _ => N) (look env) N i
theorem env_run {i d : Nat} {k : Kd} {rest : List Nat} {o : Oper} (hs : EnvStep ops Q N env i k) (ho : ops[i]? = some o) (hd : o.dst = some d) (hN : d < N) (st : Hold N env w0 a w)
    (h : ∀ a' w', Hold N ((d, k) :: env) w0 a' w' → wpOps Tryd.prog ops Q rest a' w') : o.wp Tryd.prog a w (wpOps Tryd.prog ops Q rest) Q := by
  refine hs o ho a w ⟨st.size, st.slots, fun j o' _ hji _ => ?_⟩ _ fun v w' hv hb => ?_
  · rw [if_neg (by omega)]; trivial
  · rw [hd]
    have hv : (if i = i then k else Kd.any).R v w' := hv
    rw [if_pos rfl] at hv
    exact h _ _ (st.put hN hv hb)
theorem env_one {i d : Nat} {k : Kd} {rest : List Nat} (hs : EnvStep ops Q N env i k) (hd : (ops[i]?).map (fun o => (o.dst, o.guard)) = some (some d, none)) (hN : d < N) (st : Hold N env w0 a w)
    (h : ∀ a' w', Hold N ((d, k) :: env) w0 a' w' → wpOps Tryd.prog ops Q rest a' w') : wpOps Tryd.prog ops Q (i :: rest) a w := by
  cases ho : ops[i]? with
  | none => rw [ho] at hd; cases hd
  | some o =>
    rw [ho] at hd
    have hd := Option.some.inj hd
    simp only [Prod.mk.injEq] at hd
    simp only [wpOps, ho, wanted_free hd.2, if_true]
    exact .inl (env_run hs ho hd.1 hN st h)
theorem env_yield {g dg : Nat} {b : Bool} (hg : (ops[g]?).bind (·.dst) = some dg) (hN : dg < N) (hl : look env dg = some (.val (.bool b))) (st : Hold N env w0 a w) : yielded ops a.tmps g = some b := by
  have hv : a.tmps.getD dg undef = .bool b := st.slots _ _ hl
  have hlt : dg < a.tmps.size := by rw [st.size]; exact hN
  have ht : a.tmps[dg]? = some (.bool b) := by
    rw [Array.getElem?_eq_getElem hlt]
    have : a.tmps.getD dg undef = a.tmps[dg] := by simp [hlt]
    rw [← this, hv]
  unfold yielded
  rw [hg]
  simp only [Option.bind_some, ht]
theorem env_guard {i d g dg : Nat} {b : Bool} {k : Kd} {rest : List Nat} (hs : EnvStep ops Q N env i k) (hd : (ops[i]?).map (fun o => (o.dst, o.guard)) = some (some d, some (g, b))) (hN : d < N)
    (hg : (ops[g]?).bind (·.dst) = some dg) (hgN : dg < N) (hl : look env dg = some (.val (.bool b))) (st : Hold N env w0 a w)
    (h : ∀ a' w', Hold N ((d, k) :: env) w0 a' w' → wpOps Tryd.prog ops Q rest a' w') : wpOps Tryd.prog ops Q (i :: rest) a w := by
  cases ho : ops[i]? with
  | none => rw [ho] at hd; cases hd
  | some o =>
    rw [ho] at hd
    have hd := Option.some.inj hd
    simp only [Prod.mk.injEq] at hd
    have hw : Region.wanted o (yielded ops a.tmps) = true := by
      unfold Region.wanted
      rw [hd.2]
      simp only [env_yield hg hgN hl st]
      cases b <;> rfl
    simp only [wpOps, ho, hw, if_true]
    exact .inl (env_run hs ho hd.1 hN st h)
/-- What is not a given truth value: the other one, or nothing. -/
def Kd.no (b : Bool) : Kd → Bool
  | .val (.bool c) => c != b
  | .val (.tuple _) => true
  | _ => false
theorem Kd.no_spec {b : Bool} {k : Kd} {v : Value} {w : World} (h : k.no b = true) (hv : k.R v w) : v ≠ .bool b := by
  unfold Kd.no at h
  split at h
  · rename_i c
    have e : v = .bool c := hv
    subst e
    intro e
    cases e
    simp at h
  · have e : v = .tuple _ := hv
    subst e
    intro e
    cases e
  · cases h
theorem yield_ne {g dg : Nat} {b : Bool} {tmps : Array Value} (hg : (ops[g]?).bind (·.dst) = some dg) (hne : tmps.getD dg undef ≠ .bool b) : yielded ops tmps g ≠ some b := by
  intro h
  unfold yielded at h
  rw [hg] at h
  simp only [Option.bind_some] at h
  split at h
  · rename_i c hc
    cases h
    apply hne
    obtain ⟨hlt, he⟩ := Array.getElem?_eq_some_iff.1 hc
    rw [← he]
    simp [hlt]
  · cases h
theorem not_wanted {o : Oper} {g : Nat} {b : Bool} {y : Nat → Option Bool} (hd : o.guard = some (g, b)) (hne : y g ≠ some b) : Region.wanted o y = false := by
  unfold Region.wanted
  rw [hd]
  simpa using hne
theorem env_skip {i d g dg : Nat} {b : Bool} {kg : Kd} {rest : List Nat} (hd : (ops[i]?).map (fun o => (o.dst, o.guard)) = some (some d, some (g, b))) (hN : d < N)
    (hg : (ops[g]?).bind (·.dst) = some dg) (hl : look env dg = some kg) (hk : kg.no b = true) (st : Hold N env w0 a w)
    (h : ∀ a' w', Hold N ((d, .val undef) :: env) w0 a' w' → wpOps Tryd.prog ops Q rest a' w') : wpOps Tryd.prog ops Q (i :: rest) a w := by
  cases ho : ops[i]? with
  | none => rw [ho] at hd; cases hd
  | some o =>
    rw [ho] at hd
    have hd := Option.some.inj hd
    simp only [Prod.mk.injEq] at hd
    have hw : Region.wanted o (yielded ops a.tmps) = false := not_wanted hd.2 (yield_ne hg (Kd.no_spec hk (st.slots _ _ hl)))
    simp only [wpOps, ho, hw]
    rw [hd.1]
    exact h _ _ (st.put (k := .val undef) hN rfl (Below.refl _ _))
/-- A new variable, written at once. -/
theorem env_box {i d s : Nat} {rest : List Nat} {p : Pay} {l : Fo} (hop : (ops[i]?).map (fun o => (o.op, o.dst, o.guard)) = some (.alloc 24, some d, none)) (hN : d < N)
    (hst : (ops[i + 1]?).map (fun o => (o.op, o.dst, o.guard)) = some (.store 24 (.tmp d) (.tmp s), none, none)) (hne : s ≠ d) (hs : look env s = some (.term p l)) (st : Hold N env w0 a w)
    (h : ∀ a' w', Hold N ((d, .ptrT p l) :: env) w0 a' w' → wpOps Tryd.prog ops Q rest a' w') : wpOps Tryd.prog ops Q (i :: (i + 1) :: rest) a w := by
  cases ho : ops[i]? with
  | none => rw [ho] at hop; cases hop
  | some o =>
  cases ho2 : ops[i + 1]? with
  | none => rw [ho2] at hst; cases hst
  | some o2 =>
    rw [ho] at hop
    rw [ho2] at hst
    have hop := Option.some.inj hop
    have hst := Option.some.inj hst
    obtain ⟨dst, op, ty, pos, after, guard⟩ := o
    obtain ⟨dst2, op2, ty2, pos2, after2, guard2⟩ := o2
    simp only [Prod.mk.injEq] at hop hst
    obtain ⟨e1, e2, e3⟩ := hst
    obtain ⟨e4, e5, e6⟩ := hop
    subst e1 e2 e3 e4 e5 e6
    obtain ⟨A, c, e, ha⟩ := st.slots _ _ hs
    have hDi : d < a.tmps.size := by rw [st.size]; exact hN
    simp only [wpOps, ho, wanted_free (o := ⟨some d, _, ty, pos, after, none⟩) rfl, if_true]
    refine .inl (wp_alloc_op ?_)
    simp only [wpOps, ho2, wanted_free (o := ⟨none, _, ty2, pos2, after2, none⟩) rfl, if_true]
    have ev1 : (a.put (some d) (.pointer (some ⟨w.heap.size, 0, none⟩))).eval (.tmp d) = .pointer (some ⟨w.heap.size, 0, none⟩) := put_self hDi
    have ev2 : (a.put (some d) (.pointer (some ⟨w.heap.size, 0, none⟩))).eval (.tmp s) = tv p A (Tm.len l) c := (put_other hne).trans e
    refine .inl (wp_store_op p A (Tm.len l) c ev1 ev2 ?_)
    have hb : Below w.heap.size w (w.alloc (.cells #[.int .i64 p.1, .int .i64 p.2.1, .string p.2.2, .slice A (Tm.len l) c] 24)) := (Below.refl _ _).alloc (Nat.le_refl _) _
    exact h _ _ (st.put (k := .ptrT p l) hN (box_R w p l A c ha) hb)
/-- A new variable, written behind an assignment. -/
theorem env_box3 {i d s e x : Nat} {k : Kd} {rest : List Nat} {p : Pay} {l : Fo} (hop : (ops[i]?).map (fun o => (o.op, o.dst, o.guard)) = some (.alloc 24, some d, none)) (hN : d < N)
    (hop2 : (ops[i + 1]?).map (fun o => (o.op, o.dst, o.guard)) = some (.assign (.tmp x), some e, none)) (heN : e < N) (hx : look env x = some k) (hxd : x ≠ d) (hed : d ≠ e)
    (hst : (ops[i + 2]?).map (fun o => (o.op, o.dst, o.guard)) = some (.store 24 (.tmp d) (.tmp s), none, none)) (hne : s ≠ d) (hse : s ≠ e) (hs : look env s = some (.term p l)) (st : Hold N env w0 a w)
    (h : ∀ a' w', Hold N ((e, k) :: (d, .ptrT p l) :: env) w0 a' w' → wpOps Tryd.prog ops Q rest a' w') : wpOps Tryd.prog ops Q (i :: (i + 1) :: (i + 2) :: rest) a w := by
  cases ho : ops[i]? with
  | none => rw [ho] at hop; cases hop
  | some o =>
  cases hoa : ops[i + 1]? with
  | none => rw [hoa] at hop2; cases hop2
  | some oa =>
  cases ho2 : ops[i + 2]? with
  | none => rw [ho2] at hst; cases hst
  | some o2 =>
    rw [ho] at hop
    rw [hoa] at hop2
    rw [ho2] at hst
    have hop := Option.some.inj hop
    have hop2 := Option.some.inj hop2
    have hst := Option.some.inj hst
    obtain ⟨dst, op, ty, pos, after, guard⟩ := o
    obtain ⟨dsta, opa, tya, posa, aftera, guarda⟩ := oa
    obtain ⟨dst2, op2, ty2, pos2, after2, guard2⟩ := o2
    simp only [Prod.mk.injEq] at hop hop2 hst
    obtain ⟨e1, e2, e3⟩ := hst
    obtain ⟨e4, e5, e6⟩ := hop
    obtain ⟨e7, e8, e9⟩ := hop2
    subst e1 e2 e3 e4 e5 e6 e7 e8 e9
    obtain ⟨A, c, ev, ha⟩ := st.slots _ _ hs
    have hDi : d < a.tmps.size := by rw [st.size]; exact hN
    simp only [wpOps, ho, wanted_free (o := ⟨some d, _, ty, pos, after, none⟩) rfl, if_true]
    refine .inl (wp_alloc_op ?_)
    simp only [wpOps, hoa, wanted_free (o := ⟨some e, _, tya, posa, aftera, none⟩) rfl, if_true]
    refine .inl (wp_assign_op ?_)
    have evm : (a.put (some d) (.pointer (some ⟨w.heap.size, 0, none⟩))).eval (.tmp x) = a.tmps.getD x undef := put_other hxd
    rw [evm]
    simp only [wpOps, ho2, wanted_free (o := ⟨none, _, ty2, pos2, after2, none⟩) rfl, if_true]
    have ev1 : ((a.put (some d) (.pointer (some ⟨w.heap.size, 0, none⟩))).put (some e) (a.tmps.getD x undef)).eval (.tmp d) = .pointer (some ⟨w.heap.size, 0, none⟩) := (put_other hed).trans (put_self hDi)
    have ev2 : ((a.put (some d) (.pointer (some ⟨w.heap.size, 0, none⟩))).put (some e) (a.tmps.getD x undef)).eval (.tmp s) = tv p A (Tm.len l) c := (put_other hse).trans ((put_other hne).trans ev)
    refine .inl (wp_store_op p A (Tm.len l) c ev1 ev2 ?_)
    have hb : Below w.heap.size w (w.alloc (.cells #[.int .i64 p.1, .int .i64 p.2.1, .string p.2.2, .slice A (Tm.len l) c] 24)) := (Below.refl _ _).alloc (Nat.le_refl _) _
    have s1 := st.put (k := .ptrT p l) hN (box_R w p l A c ha) hb
    exact h _ _ (s1.put (k := k) (v := a.tmps.getD x undef) heN (Kd.keep (st.slots _ _ hx) hb) (Below.refl _ _))

/-! ### in any order, guards of both kinds -/
def Kd.isB (b : Bool) : Kd → Bool
  | .val (.bool c) => c == b
  | _ => false
theorem Kd.isB_spec {b : Bool} {k : Kd} (h : k.isB b = true) : k = .val (.bool b) := by
  unfold Kd.isB at h
  split at h
  · rename_i c; have : c = b := by simpa using h
    subst this; rfl
  · cases h
def Kd.isU : Kd → Bool
  | .val (.tuple vs) => vs.isEmpty
  | _ => false
theorem Kd.isU_spec {k : Kd} (h : k.isU = true) : k = .val undef := by
  unfold Kd.isU at h
  split at h
  · rename_i vs
    rw [Array.isEmpty_iff.1 h]; rfl
  · cases h
/-- Whether an operation runs. -/
def runs (E : Nat → Kd) (o : Oper) : Bool := match o.guard with | none => true | some (g, b) => (E g).isB b
def goodOp3 (E : Nat → Kd) (D : Nat → Nat) (base : Nat → Option Kd) (N i : Nat) (o : Oper) : Bool :=
  (o.after.all fun e => decide (e.on < i) && Region.binds .any e) && (match o.guard with | none => true | some (g, b) => (o.after.any fun e => e.on == g) && ((E g).isB b || ((E g).no b && (E i).isU))) && (o.dst == some (D i)) && decide (D i < N) && (base (D i)).isNone
def goodAll3 (E : Nat → Kd) (D : Nat → Nat) (base : Nat → Option Kd) (N : Nat) : Nat → List Oper → Bool
  | _, [] => true
  | i, o :: os => goodOp3 E D base N i o && goodAll3 E D base N (i + 1) os
theorem goodAll3_spec {E : Nat → Kd} {D : Nat → Nat} {base : Nat → Option Kd} : ∀ (os : List Oper) (n : Nat), goodAll3 E D base N n os = true → ∀ i o, os[i]? = some o → goodOp3 E D base N (n + i) o = true
  | [], _, _, i, o, h => by cases h
  | x :: xs, n, hg, i, o, h => by
    simp only [goodAll3, Bool.and_eq_true] at hg
    cases i with
    | zero => cases h; exact hg.1
    | succ i =>
      have := goodAll3_spec xs (n + 1) hg.2 i o (by simpa using h)
      rwa [show n + (i + 1) = n + 1 + i by omega]
abbrev RStep (ops : Array Oper) (Q : Exit → Act → World → Prop) (E : Nat → Kd) (D : Nat → Nat) (base : Nat → Option Kd) (N i : Nat) : Prop := (ops[i]?).map (runs E) = some true → Step Tryd.prog ops Q E D base N i
theorem rstep_skip {E : Nat → Kd} {D : Nat → Nat} {base : Nat → Option Kd} {i : Nat} (h : (ops[i]?).map (runs E) = some false) : RStep ops Q E D base N i := fun h' => by rw [h] at h'; cases h'
theorem any_steps {E : Nat → Kd} {D : Nat → Nat} {base : Nat → Option Kd} (hop : ∀ i o, ops[i]? = some o → goodOp3 E D base N i o = true) (hD : ∀ i j, i < ops.size → j < ops.size → D i = D j → i = j) (hs : ∀ i, i < ops.size → RStep ops Q E D base N i)
    (w0 : World) (hQ : ∀ listed a w, (∀ j, j < ops.size → listed.getD j false = true) → Stt ops E D base N w0 listed a w → Q .normal a w) :
    ∀ (fuel : Nat) (listed : Array Bool) (a : Act) (w : World), cnt ops.size listed ≤ fuel → listed.size = ops.size → Stt ops E D base N w0 listed a w → wpAny Tryd.prog .any ops Q fuel listed a w := by
  have hpart : ∀ i o, ops[i]? = some o → (∀ e ∈ o.after, e.on < i ∧ Region.binds .any e = true) ∧ o.dst = some (D i) ∧ D i < N ∧ base (D i) = none ∧ (∀ g b, o.guard = some (g, b) → (o.after.any fun e => e.on == g) = true ∧ ((E g).isB b = true ∨ ((E g).no b = true ∧ (E i).isU = true))) := by
    intro i o ho
    have hg := hop i o ho
    unfold goodOp3 at hg
    simp only [Bool.and_eq_true, decide_eq_true_eq, beq_iff_eq, Option.isNone_iff_eq_none] at hg
    obtain ⟨⟨⟨⟨h1, h2⟩, h3⟩, h4⟩, h5⟩ := hg
    refine ⟨fun e he => ?_, h3, h4, h5, fun g b hgd => ?_⟩
    · have := Array.all_eq_true'.1 h1 e he
      rw [Bool.and_eq_true, decide_eq_true_eq] at this
      exact this
    · rw [hgd] at h2
      simp only [Bool.and_eq_true, Bool.or_eq_true] at h2
      exact h2
  have hall : ∀ listed : Array Bool, listed.size = ops.size → Region.ready .any ops listed = [] → ∀ j, j < ops.size → listed.getD j false = true := by
    intro listed hl hr j
    induction j using Nat.strongRecOn with
    | ind j ih =>
      intro hj
      cases hb : listed.getD j false with
      | true => rfl
      | false =>
        exfalso
        have ho : ops[j]? = some ops[j] := Array.getElem?_eq_getElem hj
        have hm : j ∈ Region.ready .any ops listed := mem_ready.2 ⟨by rw [getD_true_of_lt (by omega)]; exact hb, ops[j], ho, fun e he hbind => by
          have h1 := (hpart j _ ho).1 e he
          exact ih e.on h1.1 (Nat.lt_trans h1.1 hj)⟩
        rw [hr] at hm
        cases hm
  intro fuel
  induction fuel with
  | zero =>
    intro listed a w hc hl st
    have hr : Region.ready .any ops listed = [] := by
      cases hr : Region.ready .any ops listed with
      | nil => rfl
      | cons i rest =>
        exfalso
        have hm : i ∈ Region.ready .any ops listed := by rw [hr]; exact List.mem_cons_self ..
        obtain ⟨hun, o, ho, _⟩ := mem_ready.1 hm
        have hlt : i < ops.size := (Array.getElem?_eq_some_iff.1 ho).1
        have : 0 < (List.range ops.size).countP fun j => !listed.getD j true := List.countP_pos_iff.2 ⟨i, List.mem_range.2 hlt, by simp only [hun]; rfl⟩
        unfold cnt at hc
        omega
    exact ⟨hr, hQ listed a w (hall listed hl hr) st⟩
  | succ fuel ih =>
    intro listed a w hc hl st
    refine ⟨fun hr => hQ listed a w (hall listed hl hr) st, fun i hi => ?_⟩
    obtain ⟨hun, o, ho, hdep⟩ := mem_ready.1 hi
    have hlt : i < ops.size := (Array.getElem?_eq_some_iff.1 ho).1
    obtain ⟨hon, hdst, hDN, hbase, hgrd⟩ := hpart i o ho
    have hdone : ∀ j, (o.after.any fun e => e.on == j) = true → (E j).R (a.tmps.getD (D j) undef) w := by
      intro j hj
      obtain ⟨e, he, hej⟩ := Array.any_eq_true'.1 hj
      have : e.on = j := by simpa using hej
      subst this
      exact st.done e.on (by have := (hon e he).1; omega) (hdep e he (hon e he).2)
    have hil : i < listed.size := by omega
    have hgo : ∀ v w', (E i).R v w' → Below w.heap.size w w' → wpAny Tryd.prog .any ops Q fuel (listed.setIfInBounds i true) (a.put o.dst v) w' := by
      intro v w' hv hb
      refine ih _ _ _ ?_ (by simpa using hl) ?_
      · have : cnt ops.size (listed.setIfInBounds i true) < cnt ops.size listed := by
          unfold cnt
          refine countP_lt _ (fun x _ hx => ?_) i (List.mem_range.2 hlt) (by simp only [hun]; rfl) (by simp [hil])
          by_cases hxi : i = x
          · subst hxi
            simp [hil] at hx
          · rw [getD_set_ne true hxi] at hx
            exact hx
        omega
      · rw [hdst]
        have hDa : D i < a.tmps.size := by rw [st.size]; exact hDN
        refine ⟨put_size.trans st.size, st.defers, st.world.trans (hb.mono st.world.size), fun t k hk => ?_, fun j hj hjl => ?_⟩
        · rw [put_other (fun e => by subst e; rw [hk] at hbase; cases hbase)]
          exact Kd.keep (st.base t k hk) hb
        · by_cases hji : j = i
          · subst hji
            rw [put_self hDa]
            exact hv
          · rw [put_other (fun e => hji (hD j i hj hlt e))]
            rw [getD_set_ne false (Ne.symm hji)] at hjl
            exact Kd.keep (st.done j hj hjl) hb
    have hyield : ∀ g b, (o.after.any fun e => e.on == g) = true → (E g).isB b = true → yielded ops a.tmps g = some b := by
      intro g b hga hE
      have hv := hdone g hga
      rw [Kd.isB_spec hE] at hv
      have hv' : a.tmps.getD (D g) undef = .bool b := hv
      obtain ⟨e, he, hej⟩ := Array.any_eq_true'.1 hga
      have hge : e.on = g := by simpa using hej
      have hgl : g < ops.size := by have := (hon e he).1; omega
      have hgo : ops[g]? = some ops[g] := Array.getElem?_eq_getElem hgl
      obtain ⟨_, h2, h3, _⟩ := hpart g _ hgo
      have hlt2 : D g < a.tmps.size := by rw [st.size]; exact h3
      have ht : a.tmps[D g]? = some (.bool b) := by
        rw [Array.getElem?_eq_getElem hlt2]
        have : a.tmps.getD (D g) undef = a.tmps[D g] := by simp [hlt2]
        rw [← this, hv']
      unfold yielded
      rw [hgo]
      simp only [Option.bind_some, h2, ht]
    have hrun : runs E o = true → Region.wanted o (yielded ops a.tmps) = true := by
      intro hr
      unfold runs at hr
      unfold Region.wanted
      cases hgd : o.guard with
      | none => rfl
      | some gb =>
        obtain ⟨g, b⟩ := gb
        rw [hgd] at hr
        simp only [hyield g b (hgrd g b hgd).1 hr]
        cases b <;> rfl
    unfold wpOp
    simp only [ho]
    cases hr : runs E o with
    | true =>
      simp only [hrun hr, if_true]
      exact .inl (hs i hlt (by rw [ho]; exact congrArg some hr) o ho a w ⟨st.size, st.base, fun j o' ho' _ hj => by rw [ho] at ho'; cases ho'; exact hdone j hj⟩ _ hgo)
    | false =>
      unfold runs at hr
      cases hgd : o.guard with
      | none => rw [hgd] at hr; cases hr
      | some gb =>
        obtain ⟨g, b⟩ := gb
        rw [hgd] at hr
        have hr : (E g).isB b = false := hr
        obtain ⟨h1, h2⟩ := hgrd g b hgd
        rcases h2 with h2 | ⟨h2, h3⟩
        · rw [h2] at hr; cases hr
        · have hw : Region.wanted o (yielded ops a.tmps) = false := by
            obtain ⟨e, he, hej⟩ := Array.any_eq_true'.1 h1
            have hge : e.on = g := by simpa using hej
            have hgl : g < ops.size := by have := (hon e he).1; omega
            have hgo : ops[g]? = some ops[g] := Array.getElem?_eq_getElem hgl
            refine not_wanted hgd (yield_ne (dg := D g) ?_ (Kd.no_spec h2 (hdone g h1)))
            rw [hgo]
            exact (hpart g _ hgo).2.1
          rw [hw]
          exact hgo undef w (by rw [Kd.isU_spec h3]; rfl) (Below.refl _ _)
theorem look_zip (env : Env) : ∀ (Ds : List Nat) (Es : List Kd) (t : Nat) (k : Kd), look (Ds.zip Es ++ env) t = some k → (∃ i, i < Es.length ∧ Ds[i]? = some t ∧ Es[i]? = some k) ∨ look env t = some k
  | [], _, t, k, h => .inr h
  | _ :: _, [], t, k, h => .inr h
  | d :: ds, e :: es, t, k, h => by
    rw [List.zip_cons_cons, List.cons_append, look_cons] at h
    by_cases hd : d = t
    · subst hd
      rw [if_pos (by simp)] at h
      cases h
      exact .inl ⟨0, by simp, rfl, rfl⟩
    · rw [if_neg (by simpa using hd)] at h
      rcases look_zip env ds es t k h with ⟨i, h1, h2, h3⟩ | h
      · exact .inl ⟨i + 1, by simpa using h1, by simpa using h2, by simpa using h3⟩
      · exact .inr h
/-- A region that draws its order. -/
theorem env_any {id : Nat} (Ds : List Nat) (Es : List Kd) (hsz : ops.size = Es.length) (hg : goodAll3 (fun i => (Es[i]?).getD .any) (fun i => (Ds[i]?).getD (1000 + i)) (look env) N 0 ops.toList = true) (hD : ∀ i, i < Es.length → ∀ j, j < Es.length → (Ds[i]?).getD (1000 + i) = (Ds[j]?).getD (1000 + j) → i = j)
    (hs : ∀ i, i < Es.length → RStep ops Q (fun i => (Es[i]?).getD .any) (fun i => (Ds[i]?).getD (1000 + i)) (look env) N i) (st : Hold N env w0 a w)
    (hQ : ∀ a' w', Hold N (Ds.zip Es ++ env) w0 a' w' → Q .normal a' w') : (Code.region id ops true).wp Tryd.prog Q a w := by
  refine wp_region_any (by kernel_rfl) (any_steps (E := fun i => (Es[i]?).getD .any) (D := fun i => (Ds[i]?).getD (1000 + i)) (base := look env) (N := N) (fun i o ho => ?_) (fun i j hi hj he => hD i (by omega) j (by omega) he) (fun i hi => hs i (by omega)) w0 (fun listed a' w' hl s => ?_) ops.size _ a _ ?_ (by simp) ?_)
  · have := goodAll3_spec _ 0 hg i o (by rw [Array.getElem?_toList]; exact ho)
    rwa [Nat.zero_add] at this
  · refine hQ a' w' ⟨s.size, s.defers, s.world, fun t k hk => ?_⟩
    rcases look_zip env Ds Es t k hk with ⟨i, h1, h2, h3⟩ | h
    · have := s.done i (by omega) (hl i (by omega))
      simp only [h2, h3, Option.getD_some] at this
      exact this
    · exact s.base t k h
  · unfold cnt
    exact Nat.le_trans (List.countP_le_length) (by simp)
  · have hb : Below w.heap.size w { w with drawn := w.drawn + 1 } := ⟨rfl, rfl, rfl, Nat.le_refl _, fun _ _ => rfl⟩
    refine ⟨st.size, st.defers, st.world.trans (hb.mono st.world.size), fun t k hk => Kd.keep (st.slots t k hk) hb, fun j hj hl => ?_⟩
    simp [hj] at hl

/-! ### loops that count -/
/-- A loop whose body goes n times through and then leaves. -/
theorem wp_for {c : Code} {n : Nat} (J : Nat → Act → World → Prop) (h0 : J 0 a w) (step : ∀ k a w, k < n → J k a w → c.wp Tryd.prog (Exit.then (J (k + 1)) Q) a w) (last : ∀ a w, J n a w → c.wp Tryd.prog (Exit.then (fun _ _ => False) Q) a w) : (Code.loop c).wp Tryd.prog Q a w := by
  have key : ∀ m k a w, k + m = n → J k a w → Code.rounds Tryd.prog c Q (m + 1) a w := by
    intro m
    induction m with
    | zero =>
      intro k a w hk hj
      obtain rfl : k = n := by omega
      rw [rounds_succ]
      exact last a w hj
    | succ m ih =>
      intro k a w hk hj
      rw [rounds_succ]
      refine Code.wp_mono ?_ (step k a w (by omega) hj)
      intro e a' w' h
      cases e with
      | normal => exact ih (k + 1) a' w' (by omega) h
      | _ => exact h
  exact wp_loop_rounds (n + 1) (key n 0 a w (by omega) h0)
theorem then_ret (K : Act → World → Prop) : Exit.then K Q .ret a w = Q .ret a w := rfl
theorem block_ret (id : Nat) : Exit.inBlock id Q .ret a w = Q .ret a w := rfl
theorem then_normal (K : Act → World → Prop) : Exit.then K Q .normal a w = K a w := rfl
theorem block_normal (id : Nat) : Exit.inBlock id Q .normal a w = Q .normal a w := rfl
theorem then_exit (K : Act → World → Prop) (id : Nat) : Exit.then K Q (.exit id) a w = Q (.exit id) a w := rfl
theorem block_exit (id : Nat) : Exit.inBlock id Q (.exit id) a w = Q .normal a w := by show (if id = id then _ else _) = _; rw [if_pos rfl]
/-- At the end: the result is a slot. -/
theorem law_fin {fn : Func} {t : Tmp} (hres : fn.results = #[.tmp t]) {R : Ending → World → Prop} (h : (Kd.val (.bool true)).R (a.tmps.getD t undef) w) (hd : a.defers = []) (hR : R (.returned (.bool true)) w) : bodyPost Tryd.prog fn R .ret a w := by
  have h' : a.tmps.getD t undef = .bool true := h
  refine bodyPost_ret (v := .bool true) ?_ hd hR
  rw [← h']
  exact results_tmp hres a.tmps Tryd.prog w
theorem env_cond {x : Tmp} {p q : Code} {b : Bool} (hl : look env x = some (.val (.bool b))) (st : Hold N env w0 a w) (h : (if b then p else q).wp Tryd.prog Q a w) : (Code.cond (.tmp x) p q).wp Tryd.prog Q a w :=
  wp_cond (t := b) (st.slots _ _ hl) h
end
end Go.Proofs.YtcjakmafojbhlaaDoor
