/-
  A row of terms of a call's own, made by appending rows.
-/
import Derived.Test.YtapcnehpechkpaaRow
import Derived.Deep.Upon
namespace Go.Proofs.Ytapcnehpechkpaa
set_option linter.unusedVariables false
set_option linter.unusedSimpArgs false
set_option maxRecDepth 100000
open Go.RowKit

/-- A row, as values. -/
theorem RowIn.vals {S : Nat → Prop} {w : World} : ∀ (F : Fo) (b o : Nat), RowIn S w F b o → ∃ vs, Vals S w vs F ∧ ∀ j u, (tcells vs)[j]? = some u → w.cell? ⟨b, o + j, none⟩ = some u
  | .nil, b, o, _ => ⟨[], trivial, fun j u h => by simp [tcells] at h⟩
  | .node p l r, b, o, ⟨h0, h1, h2, ⟨A, c, h3, hle, h4⟩, h5⟩ => by
    obtain ⟨vs, hv, hc⟩ := RowIn.vals r b (o + 4) h5
    refine ⟨tv p A (Tm.len l) c :: vs, ?_, fun j u hu => ?_⟩
    · exact ⟨⟨A, c, rfl, rfl, hle, h4⟩, hv⟩
    · have e : tcells (tv p A (Tm.len l) c :: vs) = .int .i64 p.1 :: .int .i64 p.2.1 :: .string p.2.2 :: .slice A (Tm.len l) c :: tcells vs := by simp [tcells, Value.cells]
      rw [e] at hu
      match j, hu with
      | 0, hu => cases hu; exact h0
      | 1, hu => cases hu; exact h1
      | 2, hu => cases hu; exact h2
      | 3, hu => cases hu; exact h3
      | j + 4, hu =>
        have := hc j u hu
        rwa [show o + (j + 4) = o + 4 + j by omega]
/-- The slice value (A, n, c) is nil or a row in a block of its own, from N on; it holds the terms F, whose arguments lie elsewhere. -/
structure OwnR (N : Nat) (w : World) (A : Option Addr) (n c : Nat) (F : Fo) : Prop where
  own : ∃ vs, vs.length = n ∧ Vals (fun b => b < w.heap.size ∧ (Value.slice A n c).ownBlock ≠ some b) w vs F ∧ w.ownsRow N 24 4 (.slice A n c) n (tcells vs)
  lo : N ≤ w.heap.size
theorem OwnR.start {N : Nat} {w : World} (h : N ≤ w.heap.size) : OwnR N w none 0 0 .nil := ⟨⟨[], rfl, trivial, World.ownsRow_nil w _ _ _⟩, h⟩
theorem OwnR.len {N : Nat} {w : World} {A : Option Addr} {n c : Nat} {F : Fo} (h : OwnR N w A n c F) : Tm.len F = n := by
  obtain ⟨vs, h1, h2, _⟩ := h.own
  rw [← Vals.len vs F h2, h1]
theorem OwnR.lt {N : Nat} {w : World} {A : Option Addr} {n c : Nat} {F : Fo} (h : OwnR N w A n c F) {b : Nat} (hb : (Value.slice A n c).ownBlock = some b) : N ≤ b ∧ b < w.heap.size := by
  obtain ⟨vs, _, _, h3⟩ := h.own
  exact h3.lt b hb
theorem OwnR.below {N : Nat} {w w' : World} {A : Option Addr} {n c : Nat} {F : Fo} (h : OwnR N w A n c F) (hb : Below w.heap.size w w') : OwnR N w' A n c F := by
  obtain ⟨vs, h1, h2, h3⟩ := h.own
  exact ⟨⟨vs, h1, (Vals.keep (fun b hb' => hb.block b hb'.1) vs F h2).mono' fun b hb' => ⟨Nat.lt_of_lt_of_le hb'.1 hb.size, hb'.2⟩, ownsRow_same h3 fun g hg => hb.block g (h3.lt g hg).2⟩, Nat.le_trans h.lo hb.size⟩
theorem OwnR.args {N : Nat} {w : World} {A : Option Addr} {n c : Nat} {F : Fo} (h : OwnR N w A n c F) (hn : n ≤ 9223372036854775807) : ArgsB w w.heap.size A n F := by
  obtain ⟨vs, h1, h2, h3⟩ := h.own
  by_cases h0 : n = 0
  · subst h0
    obtain rfl := Tm.len_zero h.len
    exact ArgsIn.nil _ _ _
  · obtain ⟨g, cap, e, hg1, hg2⟩ := h3.form (by omega)
    injection e with e1 e2 e3
    subst e1
    have hc := h3.cells (g := g) rfl
    have := Vals.args (b := g) (o := 0) (S := fun b => b < w.heap.size) hg2 (h2.mono' fun b hb => hb.1) (by rw [h1]; exact hn) (fun j u hu => by
      have := hc j u hu
      rw [show (⟨g, 0, none⟩ : Addr).add j = ⟨g, 0 + j, none⟩ by unfold Addr.add; split <;> simp_all] at this
      exact this)
    rw [h1] at this
    exact this
theorem tcells_app (vs us : List Value) : tcells (vs ++ us) = tcells vs ++ tcells us := by simp [tcells]
theorem Vals.app {S : Nat → Prop} {w : World} : ∀ (vs us : List Value) (F G : Fo), Vals S w vs F → Vals S w us G → Vals S w (vs ++ us) (Tm.app F G)
  | [], us, .nil, G, _, h => h
  | v :: vs, us, .node p l r, G, h, h' => ⟨h.1, Vals.app vs us r G h.2 h'⟩
  | [], us, .node _ _ _, G, h, _ => h.elim
  | _ :: _, us, .nil, G, h, _ => h.elim
/-- One append. -/
theorem append_terms {N : Nat} {w : World} {A0 : Option Addr} {n c0 : Nat} {F : Fo} (h : OwnR N w A0 n c0 F) {A : Option Addr} {m c : Nat} {G : Fo} (hA : ArgsIn (fun b => b < w.heap.size ∧ (Value.slice A0 n c0).ownBlock ≠ some b) w A m G) (hb : n + m ≤ 100000) (ty : TypeId) :
    ∃ A' c' w', (Builtin.append_ #[22, 22] ty #[.slice A0 n c0, .slice A m c]).run Try.prog w = .ok (.slice A' (n + m) c') w' ∧ OwnR N w' A' (n + m) c' (Tm.app F G) ∧ Below N w w' ∧ (∀ b, b < w.heap.size → (Value.slice A0 n c0).ownBlock ≠ some b → w'.heap[b]? = w.heap[b]?) := by
  obtain ⟨i0, hi0, hz0, hz1, hz2⟩ := term_parts
  obtain ⟨vs, h1, h2, h3⟩ := h.own
  by_cases h0 : m = 0
  · subst h0
    obtain rfl := Tm.len_zero hA.len
    have hcap : n ≤ c0 := by
      rcases h3.2 with ⟨e, hn0⟩ | ⟨g, cap, cur, e, _, _, hc, _⟩
      · omega
      · cases e; exact hc
    refine ⟨A0, c0, w, ?_, by rw [Tm.app_nil, Nat.add_zero]; exact h, Below.refl _ _, fun _ _ _ => rfl⟩
    rw [Nat.add_zero]
    cases A with
    | none => exact run_append_nothing w 22 22 ty 24 i0 Try.underlying22 hi0 A0 n c0 hcap _ (Src.ofNil w Try.underlying22 c)
    | some ad => exact run_append_nothing w 22 22 ty 24 i0 Try.underlying22 hi0 A0 n c0 hcap _ (Src.ofSlice w Try.underlying22 ad 0 c [] (by simp) (by simp) (by simp))
  · obtain ⟨bk, of, rfl, hbk, hrow⟩ := hA.row (by omega)
    obtain ⟨us, hu, hcu⟩ := RowIn.vals G bk of hrow
    have hul : us.length = m := by rw [Vals.len us G hu, hA.len]
    obtain ⟨g, cap, w', hr, hown, hgrow, hat, hlt⟩ := run_append_lies (P := Try.prog) (w := w) 22 ty N 24 i0 (tv zp none 0 0) 4 56 Try.underlying22 hi0 hz0 hz1 hz2 rfl (by decide) (.slice A0 n c0) n (tcells vs) h3 ⟨bk, of, none⟩ m c (tcells us)
      (by rw [Vals.tcells_len us G hu, hul]) (fun j u hj => by
        rw [show (⟨bk, of, none⟩ : Addr).add j = ⟨bk, of + j, none⟩ by unfold Addr.add; split <;> simp_all]
        exact hcu j u hj) (Vals.one us G hu) (by omega) (Nat.le_trans hb (by decide)) (by omega) h.lo w.heap.size rfl
    have hkeep : ∀ b, b < w.heap.size ∧ (Value.slice A0 n c0).ownBlock ≠ some b → w'.heap[b]? = w.heap[b]? := fun b hb' => hgrow.block b hb'.1 fun e => hb'.2 e.symm
    have hne : ∀ b, b < w.heap.size ∧ (Value.slice A0 n c0).ownBlock ≠ some b → b < w'.heap.size ∧ (Value.slice (some ⟨g, 0, none⟩) (n + m) cap).ownBlock ≠ some b := by
      intro b hb'
      refine ⟨Nat.lt_of_lt_of_le hb'.1 hgrow.size, fun e => ?_⟩
      have e' : g = b := by simpa [Value.ownBlock] using e
      subst e'
      rcases hat with h' | h'
      · exact hb'.2 h'
      · omega
    refine ⟨some ⟨g, 0, none⟩, cap, w', hr, ⟨⟨vs ++ us, by rw [List.length_append, h1, hul], ?_, by rw [tcells_app]; exact hown⟩, Nat.le_trans h.lo hgrow.size⟩, ⟨hgrow.os, hgrow.tape, hgrow.output, hgrow.size, fun b hb' => hgrow.block b (Nat.lt_of_lt_of_le hb' h.lo) fun e => ?_⟩, fun b h1 h2 => hkeep b ⟨h1, h2⟩⟩
    · exact Vals.app vs us F G ((Vals.keep hkeep vs F h2).mono' hne) ((Vals.keep hkeep us G hu).mono' hne)
    · have := h3.lt b e.symm; omega
theorem wpList_append_terms {ops : Array Oper} {rest : List Oper} {o : Oper} {a : Act} {Q : Exit → Act → World → Prop} {w : World} (hgd : o.guard = none) (s x : Operand) (ho : o.op = .call { callee := .builtin .append, args := #[s, x], argTypes := #[22, 22] })
    {N : Nat} {A0 : Option Addr} {n c0 : Nat} {F : Fo} (h : OwnR N w A0 n c0 F) (hs : a.eval s = .slice A0 n c0) {A : Option Addr} {m c : Nat} {G : Fo} (hx : a.eval x = .slice A m c)
    (hA : ArgsIn (fun b => b < w.heap.size ∧ (Value.slice A0 n c0).ownBlock ≠ some b) w A m G) (hb : n + m ≤ 100000)
    (hk : ∀ A' c' w', OwnR N w' A' (n + m) c' (Tm.app F G) → Below N w w' → (∀ b, b < w.heap.size → (Value.slice A0 n c0).ownBlock ≠ some b → w'.heap[b]? = w.heap[b]?) → wpList Try.prog ops Q rest (a.put o.dst (.slice A' (n + m) c')) w') : wpList Try.prog ops Q (o :: rest) a w := by
  obtain ⟨A', c', w', hr, h1, h2, h3⟩ := append_terms h hA hb o.type
  refine wpList_plain hgd fun K hK => ?_
  unfold Oper.wp
  simp [execOp, ho, resolve, invoke, builtin, hs, hx, Result.andThen]
  rw [hr]
  exact hK _ _ (hk A' c' w' h1 h2 h3)
/-- A row of one new term. -/
theorem args_one {w : World} {p : Pay} {l : Fo} {A : Option Addr} {c : Nat} {S S' : Nat → Prop} (hA : ArgsIn S w A (Tm.len l) l) (hS : ∀ b, S b → b < w.heap.size ∧ S' b) (hS' : S' w.heap.size) :
    ArgsIn S' (w.alloc (.cells #[.int .i64 p.1, .int .i64 p.2.1, .string p.2.2, .slice A (Tm.len l) c] 24)) (some ⟨w.heap.size, 0, none⟩) 1 (.node p l .nil) := by
  have ht := TermAt.new w p A (Tm.len l) c 24
  have hk := (hA.keep (w' := w.alloc (.cells #[.int .i64 p.1, .int .i64 p.2.1, .string p.2.2, .slice A (Tm.len l) c] 24)) fun b hb => Below.heap_alloc _ _ _ (hS b hb).1).mono fun b hb => (hS b hb).2
  exact ⟨rfl, by decide, fun _ => ⟨w.heap.size, 0, rfl, hS', ht.kind, ht.num, ht.name, ⟨A, c, ht.args, hk.hi, hk.row⟩, trivial⟩⟩
end Go.Proofs.Ytapcnehpechkpaa
