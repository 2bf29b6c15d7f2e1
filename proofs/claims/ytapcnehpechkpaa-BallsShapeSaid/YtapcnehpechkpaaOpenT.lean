/-
  An argument that is a term, or a slice of terms, opened: it reads as a term, or as a row of terms.
-/
import Derived.Test.YtapcnehpechkpaaForest
import Derived.Test.YtapcnehpechkpaaRows
import Derived.Deep.Slices
import Derived.Deep.Fields
import Derived.ChangeSame
import Derived.Lib.SmallJoins
namespace Go.Proofs.Ytapcnehpechkpaa
set_option linter.unusedVariables false
set_option linter.unusedSimpArgs false
set_option maxRecDepth 100000
open Go.ChangeShapes Go.WideShapes Go.ChangeAt Go.RowKit Go.Deep

theorem laidOut : laidOutB Try.prog = true := by kernel_rfl
theorem term_cells : Try.prog.cellsOf 24 = 4 := by kernel_rfl
theorem add_none (b o j : Nat) : (⟨b, o, none⟩ : Addr).add j = ⟨b, o + j, none⟩ := by unfold Addr.add; split <;> simp_all
/-- A row out of its elements. -/
theorem row_of {S : Nat → Prop} {w : World} {b o n : Nat} (h : ∀ i, i < n → ∃ p l A c, NodeAt S w b (o + i * 4) p l A c) : ∀ k, k ≤ n → ∃ F, Tm.len F = k ∧ RowIn S w F b (o + (n - k) * 4) := by
  intro k
  induction k with
  | zero => intro _; exact ⟨.nil, rfl, trivial⟩
  | succ k ih =>
    intro hk
    obtain ⟨F, hl, hr⟩ := ih (by omega)
    obtain ⟨p, l, A, c, hn⟩ := h (n - (k + 1)) (by omega)
    refine ⟨.node p l F, by show Tm.len F + 1 = _; rw [hl], hn.kind, hn.num, hn.name, ⟨A, c, hn.args, hn.inn.hi, hn.inn.row⟩, ?_⟩
    rw [show o + (n - (k + 1)) * 4 + 4 = o + (n - k) * 4 by omega]
    exact hr
section
variable {H : Type} {enc : TypeId × Value → H} {w : World} {base : Nat} {spare : Nat → Bool} {held : Bool}

theorem open_row {a : Addr} {len : Nat} (hel : ∀ i, i < len → ∃ cs', w.cells? base (a.add (i * 4)) 4 = some cs' ∧ ∃ (p : Pay) (l : Fo) (A : Option Addr) (c : Nat), cs' = [.int .i64 p.1, .int .i64 p.2.1, .string p.2.2, .slice A (Tm.len l) c] ∧ ArgsB w w.heap.size A (Tm.len l) l) (hm : len ≤ maxLen) :
    ∃ F, Tm.len F = len ∧ ArgsB w w.heap.size (some a) len F := by
  by_cases h0 : len = 0
  · subst h0
    exact ⟨.nil, rfl, ArgsIn.nil _ _ _⟩
  · obtain ⟨b, o, spot⟩ := a
    have hcell : ∀ i, i < len → ∃ (p : Pay) (l : Fo) (A : Option Addr) (c : Nat), w.cell? ((⟨b, o, spot⟩ : Addr).add (i * 4)) = some (.int .i64 p.1) ∧ w.cell? (((⟨b, o, spot⟩ : Addr).add (i * 4)).add 1) = some (.int .i64 p.2.1) ∧ w.cell? (((⟨b, o, spot⟩ : Addr).add (i * 4)).add 2) = some (.string p.2.2) ∧ w.cell? (((⟨b, o, spot⟩ : Addr).add (i * 4)).add 3) = some (.slice A (Tm.len l) c) ∧ ArgsB w w.heap.size A (Tm.len l) l := by
      intro i hi
      obtain ⟨cs', hc, p, l, A, c, e, ha⟩ := hel i hi
      obtain ⟨_, _, hat⟩ := World.cells?_some hc
      subst e
      refine ⟨p, l, A, c, ?_, hat 1 (by omega), hat 2 (by omega), hat 3 (by omega), ha⟩
      have := hat 0 (by omega)
      have e0 : ((⟨b, o, spot⟩ : Addr).add (i * 4)).add 0 = (⟨b, o, spot⟩ : Addr).add (i * 4) := by rw [Go.Deep.add_add]; rfl
      rw [e0] at this
      exact this
    have hspot : spot = none := by
      obtain ⟨p, l, A, c, h1, _⟩ := hcell 0 (by omega)
      have := World.cell?_spot h1
      simpa [Addr.add] using this
    subst hspot
    have hb : b < w.heap.size := by
      obtain ⟨p, l, A, c, h1, _⟩ := hcell 0 (by omega)
      have := World.block_lt_of_cell? w _ h1
      simpa [Addr.add] using this
    obtain ⟨F, hl, hr⟩ := row_of (S := fun b => b < w.heap.size) (w := w) (b := b) (o := o) (n := len) (fun i hi => by
      obtain ⟨p, l, A, c, h1, h2, h3, h4, ha⟩ := hcell i hi
      rw [add_none] at h1 h2 h3 h4
      rw [add_none] at h2 h3 h4
      exact ⟨p, l, A, c, h1, h2, h3, h4, ha⟩) len (Nat.le_refl _)
    rw [Nat.sub_self, Nat.zero_mul, Nat.add_zero] at hr
    exact ⟨F, hl, hl, by unfold maxLen at hm; omega, fun _ => ⟨b, o, rfl, hb, hr⟩⟩
theorem trod4_one {P : Program} {t : TypeId} {f0 f1 f2 f3 : Field} {fuel : Nat} {cs : List Value} {x : DataW H × List MemPlace} (hs : P.underlying t = some (.struct #[f0, f1, f2, f3])) (hone : oneCellFields P #[f0, f1, f2, f3] = true) (hC : P.cellsOf t = 4) (h : DataW.trod enc P w base spare held fuel t cs = some x) :
    ∃ c0 c1 c2 c3 n y0 y1 y2 y3, fuel = n + 1 ∧ cs = [c0, c1, c2, c3] ∧ DataW.trod enc P w base spare held n f0.type [c0] = some y0 ∧ DataW.trod enc P w base spare held n f1.type [c1] = some y1 ∧ DataW.trod enc P w base spare held n f2.type [c2] = some y2 ∧ DataW.trod enc P w base spare held n f3.type [c3] = some y3 := by
  obtain ⟨xs, n, hfn, hx, hcl, hxl, hf⟩ := DataW.trod_struct hs h
  rw [hC] at hcl
  obtain ⟨o0, k0⟩ := hone_of hone 0 f0 rfl
  obtain ⟨o1, k1⟩ := hone_of hone 1 f1 rfl
  obtain ⟨o2, k2⟩ := hone_of hone 2 f2 rfl
  obtain ⟨o3, k3⟩ := hone_of hone 3 f3 rfl
  match cs, hcl, xs, hxl with
  | [c0, c1, c2, c3], _, [y0, y1, y2, y3], _ =>
    have g0 := hf 0 f0 rfl
    have g1 := hf 1 f1 rfl
    have g2 := hf 2 f2 rfl
    have g3 := hf 3 f3 rfl
    rw [o0, k0] at g0
    rw [o1, k1] at g1
    rw [o2, k2] at g2
    rw [o3, k3] at g3
    exact ⟨c0, c1, c2, c3, n, y0, y1, y2, y3, hfn, rfl, g0, g1, g2, g3⟩
theorem open_cells : ∀ (fuel : Nat) (cs : List Value) (x : DataW H × List MemPlace), DataW.trod enc Try.prog w base spare held fuel 24 cs = some x →
    ∃ (p : Pay) (l : Fo) (A : Option Addr) (c : Nat), cs = [.int .i64 p.1, .int .i64 p.2.1, .string p.2.2, .slice A (Tm.len l) c] ∧ ArgsB w w.heap.size A (Tm.len l) l := by
  intro fuel
  induction fuel using Nat.strongRecOn with
  | ind fuel ih =>
    intro cs x h
    obtain ⟨c0, c1, c2, c3, n, y0, y1, y2, y3, hfn, rfl, g0, g1, g2, g3⟩ := trod4_one Try.underlying24 (by kernel_rfl) term_cells h
    obtain ⟨z0, e0, _, _⟩ := DataW.trod_int Try.underlying3 g0
    obtain ⟨z1, e1, _, _⟩ := DataW.trod_int Try.underlying2 g1
    obtain ⟨s, e2, _, _⟩ := DataW.trod_string Try.underlying9 g2
    simp only [List.cons.injEq, and_true] at e0 e1 e2
    subst e0 e1 e2
    rcases DataW.trod_slice Try.underlying22 g3 with ⟨hc, _⟩ | ⟨a, len, cap, elems, rest, m, hnm, hc, _, hb, hl, hm, hlen, hel, _, _⟩
    · simp only [List.cons.injEq, and_true] at hc
      subst hc
      exact ⟨(z0, z1, s), .nil, none, 0, rfl, ArgsIn.nil _ _ _⟩
    · simp only [List.cons.injEq, and_true] at hc
      subst hc
      obtain ⟨F, hFl, hF⟩ := open_row (w := w) (base := base) (a := a) (len := len) (fun i hi => by
        have he := hel i hi
        rw [term_cells, List.getElem?_eq_getElem (by omega)] at he
        obtain ⟨cs', h1, h2⟩ := Option.bind_eq_some_iff.1 he
        obtain ⟨p, l, A, c, e, ha⟩ := ih m (by omega) cs' _ h2
        exact ⟨cs', h1, p, l, A, c, e, ha⟩) (by omega)
      refine ⟨(z0, z1, s), F, some a, cap, by rw [hFl], by rw [hFl]; exact hF⟩
/-- A term. -/
theorem open_term {r : Reach} {b0 : Nat} {v : Value} {d : DataW H} {ps : List MemPlace} (hval : Value.okWide Try.prog w r b0 24 v) (hd : DataW.Trod enc Try.prog w base spare held 24 v d ps) :
    ∃ p l A c, v = tv p A (Tm.len l) c ∧ ArgsB w w.heap.size A (Tm.len l) l := by
  obtain ⟨cs, rfl, hsz⟩ := okWide_struct Try.underlying24 hval
  obtain ⟨fuel, hf⟩ := hd
  obtain ⟨p, l, A, c, e, ha⟩ := open_cells fuel _ _ hf
  refine ⟨p, l, A, c, ?_, ha⟩
  have : cs = #[.int .i64 p.1, .int .i64 p.2.1, .string p.2.2, .slice A (Tm.len l) c] := by
    apply Array.toList_inj.1
    simpa [Value.cells] using e
  rw [this]
/-- A slice of terms. -/
theorem open_terms {r : Reach} {b0 : Nat} {v : Value} {d : DataW H} {ps : List MemPlace} (hval : Value.okWide Try.prog w r b0 22 v) (hd : DataW.Trod enc Try.prog w base spare held 22 v d ps) :
    ∃ F A c, v = .slice A (Tm.len F) c ∧ ArgsB w w.heap.size A (Tm.len F) F := by
  obtain ⟨A, n, c, rfl⟩ := okWide_slice Try.underlying22 hval
  obtain ⟨fuel, hf⟩ := hd
  have hf : DataW.trod enc Try.prog w base spare held fuel 22 [.slice A n c] = some (d, ps) := by simpa [Value.cells] using hf
  rcases DataW.trod_slice Try.underlying22 hf with ⟨hc, _⟩ | ⟨a, len, cap, elems, rest, m, hnm, hc, _, hb, hl, hm, hlen, hel, _, _⟩
  · simp only [List.cons.injEq, Value.slice.injEq, and_true] at hc
    obtain ⟨rfl, rfl, rfl⟩ := hc
    exact ⟨.nil, none, 0, rfl, ArgsIn.nil _ _ _⟩
  · simp only [List.cons.injEq, Value.slice.injEq, and_true] at hc
    obtain ⟨rfl, rfl, rfl⟩ := hc
    obtain ⟨F, hFl, hF⟩ := open_row (w := w) (base := base) (a := a) (len := n) (fun i hi => by
      have he := hel i hi
      rw [term_cells, List.getElem?_eq_getElem (by omega)] at he
      obtain ⟨cs', h1, h2⟩ := Option.bind_eq_some_iff.1 he
      obtain ⟨p, l, A, c, e, ha⟩ := open_cells m cs' _ h2
      exact ⟨cs', h1, p, l, A, c, e, ha⟩) (by omega)
    exact ⟨F, some a, c, by rw [hFl], by rw [hFl]; exact hF⟩
end
end Go.Proofs.Ytapcnehpechkpaa
