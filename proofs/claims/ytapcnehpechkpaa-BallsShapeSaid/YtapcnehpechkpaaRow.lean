/-
  A row of terms that a call makes by appending one term after another.
-/
import Derived.Test.YtapcnehpechkpaaCopied
import Derived.Deep.AppendLies
import Derived.Deep.RegionHeld3
import Derived.Deep.RegionLaw
namespace Go.Proofs.Ytapcnehpechkpaa
set_option linter.unusedVariables false
set_option linter.unusedSimpArgs false
set_option maxRecDepth 100000
open Go.RowKit

/-- The slice value (Ac, k, cc) is a row of the call's own, of the k terms acc, as the values vs; the block of the variable that bears it is H. -/
structure RowSt (H : Nat) (w : World) (vs : List Value) (acc : Fo) (Ac : Option Addr) (k cc : Nat) : Prop where
  len : vs.length = k
  vals : Vals (fun b => H < b ∧ b < w.heap.size ∧ (Value.slice Ac k cc).ownBlock ≠ some b) w vs acc
  own : w.ownsRow (H + 1) 24 4 (.slice Ac k cc) k (tcells vs)
  size : H < w.heap.size

theorem RowSt.start (H : Nat) (w : World) (h : H < w.heap.size) : RowSt H w [] .nil none 0 0 := ⟨rfl, trivial, World.ownsRow_nil w _ _ _, h⟩
theorem ownsRow_same {w w' : World} {base : Nat} {e : TypeId} {size : Nat} {v : Value} {n : Nat} {xs : List Value} (h : w.ownsRow base e size v n xs) (hk : ∀ g, v.ownBlock = some g → w'.heap[g]? = w.heap[g]?) : w'.ownsRow base e size v n xs := by
  refine ⟨h.1, ?_⟩
  rcases h.2 with hn | ⟨g, cap, cur, rfl, hb, hgg, rest⟩
  · exact .inl hn
  · exact .inr ⟨g, cap, cur, rfl, hb, (hk g rfl).trans hgg, rest⟩
theorem RowSt.keep {H : Nat} {w w' : World} {vs : List Value} {acc : Fo} {Ac : Option Addr} {k cc : Nat} (h : RowSt H w vs acc Ac k cc) (hs : w.heap.size ≤ w'.heap.size) (hk : ∀ b, b < w.heap.size → H < b → w'.heap[b]? = w.heap[b]?) : RowSt H w' vs acc Ac k cc where
  len := h.len
  vals := (Vals.keep (fun b hb => hk b hb.2.1 hb.1) vs acc h.vals).mono' fun b hb => ⟨hb.1, Nat.lt_of_lt_of_le hb.2.1 hs, hb.2.2⟩
  own := ownsRow_same h.own fun g hg => by have := h.own.lt g hg; exact hk g this.2 (by omega)
  size := Nat.lt_of_lt_of_le h.size hs
theorem RowSt.below {H : Nat} {w w' : World} {vs : List Value} {acc : Fo} {Ac : Option Addr} {k cc : Nat} (h : RowSt H w vs acc Ac k cc) (hb : Below w.heap.size w w') : RowSt H w' vs acc Ac k cc := h.keep hb.size fun b hlt _ => hb.block b hlt
theorem RowSt.push {H N : Nat} {w w' : World} {vs : List Value} {acc : Fo} {Ac : Option Addr} {k cc g cap : Nat} {p : Pay} {l : Fo} {A : Option Addr} {n c : Nat} (h : RowSt H w vs acc Ac k cc) (hn : n = Tm.len l)
    (hl : ∀ b, (Value.slice Ac k cc).ownBlock = some b → b < N) (hN : H < N) (ha : ArgsIn (fun b => N ≤ b ∧ b < w.heap.size) w A n l)
    (hown : w'.ownsRow (H + 1) 24 4 (.slice (some ⟨g, 0, none⟩) (k + 1) cap) (k + 1) (tcells vs ++ [.int .i64 p.1, .int .i64 p.2.1, .string p.2.2, .slice A n c]))
    (hgrow : w.grownBy w' (Value.slice Ac k cc).ownBlock) (hat : (Value.slice Ac k cc).ownBlock = some g ∨ g = w.heap.size) : RowSt H w' (vs ++ [tv p A n c]) (Tm.app acc (.node p l .nil)) (some ⟨g, 0, none⟩) (k + 1) cap := by
  subst hn
  refine ⟨by rw [List.length_append, h.len]; rfl, ?_, by rw [tcells_snoc]; exact hown, Nat.lt_of_lt_of_le h.size hgrow.size⟩
  have hne : ∀ b, b < w.heap.size → (Value.slice Ac k cc).ownBlock ≠ some b → (Value.slice (some ⟨g, 0, none⟩) (k + 1) cap).ownBlock ≠ some b := by
    intro b hb hx
    show some g ≠ some b
    intro e
    cases e
    rcases hat with h1 | h1
    · exact hx h1
    · omega
  refine Vals.snoc ?_ vs acc ?_
  · refine (ha.keep fun b hb => hgrow.block b hb.2 (fun e => ?_)).mono fun b hb => ⟨by omega, Nat.lt_of_lt_of_le hb.2 hgrow.size, hne b hb.2 (fun e => ?_)⟩
    · have := hl b e.symm; omega
    · have := hl b e; omega
  · exact (Vals.keep (fun b hb => hgrow.block b hb.2.1 (fun e => hb.2.2 e.symm)) vs acc h.vals).mono' fun b hb => ⟨hb.1, Nat.lt_of_lt_of_le hb.2.1 hgrow.size, hne b hb.2.1 hb.2.2⟩
theorem RowSt.args {H : Nat} {w : World} {vs : List Value} {acc : Fo} {Ac : Option Addr} {k cc : Nat} (h : RowSt H w vs acc Ac k cc) (hk : k ≤ 9223372036854775807) : ArgsIn (fun b => H < b ∧ b < w.heap.size) w Ac k acc := by
  have hlen : Tm.len acc = k := by rw [← Vals.len vs acc h.vals, h.len]
  by_cases h0 : k = 0
  · subst h0
    obtain rfl := Tm.len_zero hlen
    exact ArgsIn.nil _ _ _
  · have hv := h.vals.mono' (S' := fun b => H < b ∧ b < w.heap.size) fun b hb => ⟨hb.1, hb.2.1⟩
    obtain ⟨g, cap, e, hg1, hg2⟩ := h.own.form (by omega)
    injection e with e1 e2 e3
    subst e1
    have hc := h.own.cells (g := g) rfl
    have := Vals.args (b := g) (o := 0) ⟨by omega, hg2⟩ hv (by rw [h.len]; exact hk) (fun j u hu => by
      have := hc j u hu
      have hadd : (⟨g, 0, none⟩ : Addr).add j = ⟨g, j, none⟩ := by unfold Addr.add; split <;> simp_all
      rw [hadd] at this
      rw [Nat.zero_add]; exact this)
    rw [h.len] at this
    exact this
theorem TermAt.setArgs {w : World} {b : Nat} {p : Pay} {A : Option Addr} {n c : Nat} (h : TermAt w b p A n c) (A' : Option Addr) (n' c' : Nat) : TermAt (w.setCell ⟨b, 3, none⟩ (.slice A' n' c')) b p A' n' c' :=
  ⟨(cell_set (by decide)).trans h.kind, (cell_set (by decide)).trans h.num, (cell_set (by decide)).trans h.name, cell_put (by rw [h.args]; rfl)⟩
theorem SoftAt.setAny {w : World} {b : Nat} (h : SoftAt w b) (x : Addr) (u : Value) : SoftAt (w.setCell x u) b :=
  ⟨by rw [World.frozen?_setCell]; exact h.s0, by rw [World.frozen?_setCell]; exact h.s1, by rw [World.frozen?_setCell]; exact h.s2, by rw [World.frozen?_setCell]; exact h.s3⟩
theorem setCell_block (w : World) (b i : Nat) (u : Value) (k : Nat) (h : k ≠ b) : (w.setCell ⟨b, i, none⟩ u).heap[k]? = w.heap[k]? := Below.heap_setCell w ⟨b, i, none⟩ u k h
theorem setCell_size (w : World) (x : Addr) (u : Value) : (w.setCell x u).heap.size = w.heap.size := by simp [World.setCell]
theorem term_parts : ∃ i, Try.prog.info? 24 = some i ∧ i.zero = some (tv zp none 0 0) ∧ i.size = 4 ∧ i.bytes = 56 := info_parts term_info3
/-- Four cells that lie in a new block, as an append reads them. -/
theorem news_four (w : World) (p : Pay) (A : Option Addr) (n c : Nat) (t : TypeId) : ∀ j u, ([.int .i64 p.1, .int .i64 p.2.1, .string p.2.2, .slice A n c] : List Value)[j]? = some u → (w.alloc (.cells #[.int .i64 p.1, .int .i64 p.2.1, .string p.2.2, .slice A n c] t)).cell? ((⟨w.heap.size, 0, none⟩ : Addr).add j) = some u :=
  World.news_of_block (alloc_new w _)
theorem one_four (p : Pay) (A : Option Addr) (n c : Nat) : ∀ u ∈ ([.int .i64 p.1, .int .i64 p.2.1, .string p.2.2, .slice A n c] : List Value), u.oneCell' = true := by
  intro u hu
  simp at hu
  rcases hu with rfl | rfl | rfl | rfl <;> rfl
end Go.Proofs.Ytapcnehpechkpaa
