/-
  package term's Rename and the reference's.
-/
import Derived.Test.YtmljkhofahgelaaMakers
import Derived.Test.YtmljkhofahgelaaRVars
import Derived.Test.YtmljkhofahgelaaRShift
import Derived.Laws.ResultCell
namespace Go.Proofs.Ytmljkhofahgelaa
set_option linter.unusedVariables false
set_option linter.unusedSimpArgs false
open Go.RowKit

namespace Tm
/-- The variables of a row, each time that they occur. -/
def occF : Fo → List Int
  | .nil => []
  | .node p l r => (if p.1 = 0 then [p.2.1] else []) ++ (occF l ++ occF r)
def occT (p : Pay) (l : Fo) : List Int := (if p.1 = 0 then [p.2.1] else []) ++ occF l
theorem occF_cons (p : Pay) (l r : Fo) : occF (.node p l r) = occT p l ++ occF r := by simp [occF, occT]
theorem mem_vars1 (L : List Int) (p : Pay) (v : Int) : v ∈ vars1 L p ↔ v ∈ L ∨ v ∈ (if p.1 = 0 then [p.2.1] else []) := by
  unfold vars1
  by_cases h0 : p.1 = 0
  · by_cases h : p.2.1 ∈ L
    · rw [if_neg (fun e => e.2 h), if_pos h0]
      simp
      intro e; subst e; exact h
    · rw [if_pos ⟨h0, h⟩, if_pos h0]; simp
  · rw [if_neg (fun e => h0 e.1), if_neg h0]; simp
theorem mem_varsF (F : Fo) : ∀ (L : List Int) (v : Int), v ∈ varsF L F ↔ v ∈ L ∨ v ∈ occF F := by
  induction F with
  | nil => intro L v; simp [varsF, occF]
  | node p l r ihl ihr =>
    intro L v
    rw [varsF, ihr, ihl, mem_vars1, occF]
    simp only [List.mem_append, or_assoc]
theorem mem_varsT (L : List Int) (p : Pay) (l : Fo) (v : Int) : v ∈ varsT L p l ↔ v ∈ L ∨ v ∈ occT p l := by
  unfold varsT occT
  rw [mem_varsF, mem_vars1, List.mem_append, or_assoc]
theorem mem_varsOf (p : Pay) (l : Fo) (v : Int) : v ∈ varsOf p l ↔ v ∈ occT p l := by unfold varsOf; rw [mem_varsT]; simp
/-- The greatest number is passed. -/
def overB (d : Int) (L : List Int) : Bool := L.any fun v => decide (1099511627776 < v + d)
theorem overB_eq {d : Int} {L L' : List Int} (h : ∀ v, v ∈ L ↔ v ∈ L') : overB d L = overB d L' := by
  unfold overB
  rw [Bool.eq_iff_iff, List.any_eq_true, List.any_eq_true]
  exact ⟨fun ⟨x, hx, hy⟩ => ⟨x, (h x).1 hx, hy⟩, fun ⟨x, hx, hy⟩ => ⟨x, (h x).2 hx, hy⟩⟩
theorem overB_app (d : Int) (L L' : List Int) : overB d (L ++ L') = (overB d L || overB d L') := by unfold overB; rw [List.any_append]
def renF (d : Int) : Bool → Int → Bool × Pay × Fo := fun s v => (s || decide (1099511627776 < v + d), (0, v + d, ByteArray.empty), .nil)
theorem reb_ren (d : Int) (F : Fo) (hF : allB F = true) : ∀ s, reb (renF d) s F = (s || overB d (occF F), (reb (shiftF d) () F).2) := by
  induction F with
  | nil => intro s; simp [reb, occF, overB]
  | node p l r ihl ihr =>
    intro s
    simp only [allB, Bool.and_eq_true] at hF
    obtain ⟨⟨hn, hl⟩, hr⟩ := hF
    rw [reb_cons, reb_cons, occF]
    unfold rebT
    by_cases h0 : p.1 = 0
    · obtain ⟨k, v, nm⟩ := p
      have h0' : k = 0 := h0
      subst h0'
      obtain ⟨_, _, rfl, h4⟩ := nodeB_var hn
      obtain rfl := len_zero h4
      rw [if_pos rfl, if_pos rfl, if_pos rfl]
      show ((reb (renF d) (s || decide (1099511627776 < v + d)) r).1, Fo.node (0, v + d, ByteArray.empty) .nil (reb (renF d) (s || decide (1099511627776 < v + d)) r).2) = _
      rw [ihr hr]
      refine Prod.ext ?_ rfl
      show (s || decide (1099511627776 < v + d) || overB d (occF r)) = (s || overB d ([v] ++ ([] ++ occF r)))
      rw [overB_app, List.nil_append, ← Bool.or_assoc]
      simp [overB]
    · rw [if_neg h0, if_neg h0, if_neg h0]
      show ((reb (renF d) (reb (renF d) s l).1 r).1, Fo.node p (reb (renF d) s l).2 (reb (renF d) (reb (renF d) s l).1 r).2) = _
      rw [ihl hl, ihr hr]
      refine Prod.ext ?_ rfl
      show (s || overB d (occF l) || overB d (occF r)) = (s || overB d ([] ++ (occF l ++ occF r)))
      rw [List.nil_append, overB_app, Bool.or_assoc]
theorem rebT_ren (d : Int) (p : Pay) (l : Fo) (h : goodB p l = true) (s : Bool) : rebT (renF d) s p l = (s || overB d (occT p l), (rebT (shiftF d) () p l).2) := by
  have hF : allB (.node p l .nil) = true := by rw [allB_cons, h]; rfl
  have e := reb_ren d (.node p l .nil) hF s
  rw [reb_cons, reb_cons, occF_cons] at e
  have e1 := congrArg (fun x : Bool × Fo => x.1) e
  have e2 := congrArg (fun x : Bool × Fo => x.2) e
  simp only [Fo.node.injEq] at e2
  have e3 : (rebT (renF d) s p l).1 = (s || overB d (occT p l ++ occF .nil)) := e1
  rw [show occT p l ++ occF .nil = occT p l from List.append_nil _] at e3
  exact Prod.ext e3 (Prod.ext e2.1 e2.2.1)
/-- What Rename answers: a term and an error. -/
def renameOf (p : Pay) (l : Fo) (d : Int) : (Pay × Fo) × Int :=
  if validB p l = true ∧ 0 ≤ d ∧ d ≤ 1099511627776 then (if overB d (occT p l) then ((zp, .nil), 2) else ((rebT (shiftF d) () p l).2, 0)) else ((zp, .nil), 1)
end Tm

/-- ErrLong, or OK. -/
def errN (s : Bool) : Int := if s then 2 else 0
/-- A term and an error that a function makes. -/
def Makes2 (q : (Pay × Fo) × Int) (w : World) (e : Ending) (w' : World) : Prop :=
  ∃ A c, e = .returned (.tuple #[tv q.1.1 A (Tm.len q.1.2) c, .int .i64 q.2]) ∧ ArgsIn (fun b => w.heap.size ≤ b ∧ b < w'.heap.size) w' A (Tm.len q.1.2) q.1.2 ∧ Below w.heap.size w w'

theorem load_term (w : World) (b : Nat) (p : Pay) (A : Option Addr) (n c : Nat) (ht : TermAt w b p A n c) : (loadVar 24 ⟨b, 0, none⟩).run Try.prog w = .ok (tv p A n c) w := by
  have hl : (loadCells ⟨b, 0, none⟩ 4).run Try.prog w = .ok #[.int .i64 p.1, .int .i64 p.2.1, .string p.2.2, .slice A n c] w := by
    refine run_loadCells_list (P := Try.prog) w ⟨b, 0, none⟩ [.int .i64 p.1, .int .i64 p.2.1, .string p.2.2, .slice A n c] (fun j v hv => ?_)
    have hadd : (⟨b, 0, none⟩ : Addr).add j = ⟨b, j, none⟩ := by unfold Addr.add; split <;> simp_all
    rw [hadd]
    match j, hv with
    | 0, hv => cases hv; exact ht.kind
    | 1, hv => cases hv; exact ht.num
    | 2, hv => cases hv; exact ht.name
    | 3, hv => cases hv; exact ht.args
    | _ + 4, hv => cases hv
  have hagg : (isAgg 24).run Try.prog w = .ok true w := by
    unfold isAgg
    rw [Sem.run_bind, run_underlying Try.underlying24 w]
    rfl
  cases hq : Try.prog.info? 24 with
  | none => have := term_info; rw [hq] at this; cases this
  | some i =>
    have hs : i.size = 4 := by have := term_info; rw [hq] at this; simpa using this
    simp [loadVar, Sem.run_bind, hagg, sizeOf, typeInfo, hq, hs, hl]
theorem term_result_tmp {fn : Func} {q u : Tmp} (h : fn.results = #[.cell q 24, .tmp u]) (tmps : Array Value) (w : World) (b : Nat) (p : Pay) (A : Option Addr) (n c : Nat) (x : Value) (hp : tmps.getD q undef = .pointer (some ⟨b, 0, none⟩)) (hu : tmps.getD u undef = x) (ht : TermAt w b p A n c) :
    (results fn tmps).run Try.prog w = .ok (.tuple #[tv p A n c, x]) w := by
  rw [results_cell_tmp h, hp, hu]
  simp [asAddr, load_term w b p A n c ht, Result.andThen]
theorem load_err (w : World) (b : Nat) (e : Int) (h : w.cell? ⟨b, 0, none⟩ = some (.int .i64 e)) : (loadVar 29 ⟨b, 0, none⟩).run Try.prog w = .ok (.int .i64 e) w := by
  have hagg : (isAgg 29).run Try.prog w = .ok false w := by
    unfold isAgg
    rw [Sem.run_bind, run_underlying Try.underlying29 w]
    rfl
  simp [loadVar, Sem.run_bind, hagg, load]
  simp [Sem.run, h]
theorem term_result_cell {fn : Func} {q u : Tmp} (h : fn.results = #[.cell q 24, .cell u 29]) (tmps : Array Value) (w : World) (b b' : Nat) (p : Pay) (A : Option Addr) (n c : Nat) (x : Int) (hp : tmps.getD q undef = .pointer (some ⟨b, 0, none⟩)) (hu : tmps.getD u undef = .pointer (some ⟨b', 0, none⟩)) (ht : TermAt w b p A n c) (hx : w.cell? ⟨b', 0, none⟩ = some (.int .i64 x)) :
    (results fn tmps).run Try.prog w = .ok (.tuple #[tv p A n c, .int .i64 x]) w := by
  have hp' : tmps[q]?.getD undef = .pointer (some ⟨b, 0, none⟩) := by simpa using hp
  have hu' : tmps[u]?.getD undef = .pointer (some ⟨b', 0, none⟩) := by simpa using hu
  simp [results, h, hp', hu', asAddr, load_term w b p A n c ht, load_err w b' x hx]

set_option maxHeartbeats 1000000 in
theorem rename1_any (fb eb : Nat) (hne : fb ≠ eb) (d v : Int) (s : Bool) (w : World) (hf : w.cell? ⟨fb, 0, none⟩ = some (.int .i64 d)) (he : CellIs w eb (.int .i64 (errN s))) (d0 : 0 ≤ d) (d1 : d ≤ 1099511627776) (v0 : 0 ≤ v) (v1 : v ≤ 1099511627776) :
    Calls Try.prog 51 #[.int .i64 v, .pointer (some ⟨fb, 0, none⟩), .pointer (some ⟨eb, 0, none⟩)] w fun e w' => e = .returned (tv (0, v + d, ByteArray.empty) none 0 0) ∧ CellIs w' eb (.int .i64 (errN (s || decide (1099511627776 < v + d)))) ∧ Only (· = eb) w w' := by
  have C := Lib.hid fun w => isVar_any (v + d) w
  have hfl := World.block_lt_of_cell? w _ hf
  have hel := he.lt
  have HE := Lib.hid he
  have HFL := Lib.hid hfl
  have a1 : ∀ o, (w.alloc o).cell? ⟨fb, 0, none⟩ = some (.int .i64 d) := fun o => (cell_of_block (p := ⟨fb, 0, none⟩) (Below.heap_alloc _ _ _ hfl)).trans hf
  have g1 : ∀ w0 : World, TermAt (w0.alloc (.cells #[.int .i64 0, .int .i64 (v + d), .string ⟨#[]⟩, .slice none 0 0] 24)) w0.heap.size (0, v + d, ByteArray.empty) none 0 0 := fun w0 => TermAt.new w0 (0, v + d, ByteArray.empty) none 0 0 24
  by_cases hov : 1099511627776 < v + d
  · rw [decide_eq_true hov, Bool.or_true]
    have hb : (decide (0 ≤ v + d) && decide (v + d ≤ 1099511627776)) = false := by rw [Bool.and_eq_false_iff]; right; rw [decide_eq_false_iff_not]; omega
    rw [hb] at C
    have q2 := (HE.out.alloc (.cells #[.int .i64 0, .int .i64 0, .string ⟨#[]⟩, .slice none 0 0] 24)).soft
    have q1 := (HE.out.alloc (.cells #[.int .i64 0, .int .i64 0, .string ⟨#[]⟩, .slice none 0 0] 24)).cell
    have a2 : ∀ u, (w.setCell ⟨eb, 0, none⟩ u).cell? ⟨fb, 0, none⟩ = some (.int .i64 d) := fun u => (cell_of_block (p := ⟨fb, 0, none⟩) (Below.heap_setCell w ⟨eb, 0, none⟩ u fb hne)).trans hf
    have hfs : fb < w.heap.size := HFL.out
    clear hb he hfl
    go_enter Try.func51, Try.ntmps51
    go_wp2_with fail
    refine (C.out _).mono ?_
    rintro e w1 ⟨rfl, rfl⟩
    go_wp2_with fail
    have g2 : ∀ u : Value, TermAt ((w.setCell ⟨eb, 0, none⟩ u).alloc (.cells #[.int .i64 0, .int .i64 (v + d), .string ⟨#[]⟩, .slice none 0 0] 24)) w.heap.size (0, v + d, ByteArray.empty) none 0 0 := fun u => by
      have := g1 (w.setCell ⟨eb, 0, none⟩ u)
      rw [setCell_size] at this
      exact this
    refine bodyPost_ret (term_result (q := 4) rfl _ _ w.heap.size (0, v + d, ByteArray.empty) none 0 0 rfl (g2 _)) rfl ?_
    exact ⟨rfl, (HE.out.set _).alloc _, ((Only.refl (· = eb) w).setCell (p := ⟨eb, 0, none⟩) rfl _).alloc _⟩
  · rw [decide_eq_false hov, Bool.or_false]
    have hb : (decide (0 ≤ v + d) && decide (v + d ≤ 1099511627776)) = true := by rw [Bool.and_eq_true, decide_eq_true_eq, decide_eq_true_eq]; omega
    rw [hb] at C
    clear hb he hfl
    go_enter Try.func51, Try.ntmps51
    go_wp2_with fail
    refine (C.out _).mono ?_
    rintro e w1 ⟨rfl, rfl⟩
    go_wp2_with fail
    refine bodyPost_ret (term_result (q := 4) rfl _ _ w.heap.size (0, v + d, ByteArray.empty) none 0 0 rfl (g1 w)) rfl ?_
    exact ⟨rfl, HE.out.alloc _, (Only.refl _ w).alloc _⟩

structure RenSt (fb eb : Nat) (d : Int) (s : Bool) (w : World) : Prop where
  from_ : w.cell? ⟨fb, 0, none⟩ = some (.int .i64 d)
  err : CellIs w eb (.int .i64 (errN s))
theorem enters_rename1 : ∀ (args : Array Value) (w : World), (callFunc 51 args).run Try.prog w = .ok (.enter 51 args) w := fun args w => by kernel_rfl
theorem renSpec (B Bx fb eb : Nat) (d : Int) (hne : fb ≠ eb) (hB : B ≤ eb) (h1 : eb < Bx) (h2 : fb < Bx) (d0 : 0 ≤ d) (d1 : d ≤ 1099511627776) : OfSpec (Tm.renF d) 51 #[.pointer (some ⟨fb, 0, none⟩), .pointer (some ⟨eb, 0, none⟩)] B 0 Bx (· = eb) (RenSt fb eb d) where
  enters := enters_rename1
  lo := by omega
  lo2 := Nat.zero_le _
  own := fun k h => by subst h; exact ⟨hB, h1⟩
  keeps := fun s w w' h hs hk => ⟨(cell_of_block (p := ⟨fb, 0, none⟩) (hk _ h2)).trans h.from_, ⟨(cell_of_block (p := ⟨eb, 0, none⟩) (hk _ h1)).trans h.err.cell, (frozen_of_block (p := ⟨eb, 0, none⟩) (hk _ h1)).trans h.err.soft⟩⟩
  gives := fun s v w h hw h0 hv => (rename1_any fb eb hne d v s w h.from_ h.err d0 d1 h0 hv).mono fun e w' ⟨he, hi, ho⟩ => ⟨none, 0, he, ArgsIn.nil _ _ _, ⟨(ho.cell (p := ⟨fb, 0, none⟩) (by show fb < _; omega) hne).trans h.from_, hi⟩, ho⟩
end Go.Proofs.Ytmljkhofahgelaa
