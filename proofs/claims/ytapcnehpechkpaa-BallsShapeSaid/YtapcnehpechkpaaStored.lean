/-
  A term that is stored into the cell of a result.
-/
import Derived.Test.YtapcnehpechkpaaRebuilt
namespace Go.Proofs.Ytapcnehpechkpaa
set_option linter.unusedVariables false
set_option linter.unusedSimpArgs false
set_option maxRecDepth 100000
open Go.RowKit

/-- A result's cell that holds the zero Term and can be written. -/
structure ResAt (w : World) (r : Nat) : Prop where
  t : TermAt w r zp none 0 0
  s : SoftAt w r
theorem ResAt.new (w : World) (t : TypeId) (r : Nat) (h : w.heap.size = r) : ResAt (w.alloc (.cells #[.int .i64 0, .int .i64 0, .string ⟨#[]⟩, .slice none 0 0] t)) r := by
  subst h
  exact ⟨TermAt.new w zp none 0 0 t, SoftAt.new w _ t⟩
theorem ResAt.same {w w' : World} {r : Nat} (h : ResAt w r) (hk : w'.heap[r]? = w.heap[r]?) : ResAt w' r := ⟨h.t.same hk, h.s.same hk⟩
theorem ResAt.below {w w' : World} {r : Nat} (h : ResAt w r) {B : Nat} (hb : Below B w w') (hr : r < B) : ResAt w' r := h.same (hb.block r hr)

structure Stored (w1 w2 : World) (r : Nat) (p : Pay) (A : Option Addr) (n c : Nat) : Prop where
  term : TermAt w2 r p A n c
  soft : SoftAt w2 r
  size : w2.heap.size = w1.heap.size
  block : ∀ k, k ≠ r → w2.heap[k]? = w1.heap[k]?
  below : ∀ (B : Nat) (w : World), Below B w w1 → B ≤ r → Below B w w2
theorem stored (w1 : World) (r : Nat) (p p0 : Pay) (A A0 : Option Addr) (n c n0 c0 : Nat) (h : TermAt w1 r p0 A0 n0 c0) (hs : SoftAt w1 r) : Stored w1 (set4 w1 r 0 p A n c) r p A n c where
  term := set4_term w1 r p A n c h.four
  soft := ⟨by rw [set4_frozen]; exact hs.s0, by rw [set4_frozen]; exact hs.s1, by rw [set4_frozen]; exact hs.s2, by rw [set4_frozen]; exact hs.s3⟩
  size := set4_size w1 r 0 p A n c
  block := set4_block w1 r 0 p A n c
  below := fun B w hb hr => ⟨hb.os, hb.tape, hb.output, by rw [set4_size]; exact hb.size, fun k hk => (set4_block w1 r 0 p A n c k (by omega)).trans (hb.block k hk)⟩
theorem Stored.fresh {w1 w2 : World} {r : Nat} {p : Pay} {A : Option Addr} {n c : Nat} (h : Stored w1 w2 r p A n c) {N N' : Nat} {A' : Option Addr} {n' : Nat} {F : Fo} (ha : ArgsIn (fun b => N ≤ b ∧ b < w1.heap.size) w1 A' n' F) (hr : r < N) (hN : N' ≤ N) : ArgsIn (fun b => N' ≤ b ∧ b < w2.heap.size) w2 A' n' F :=
  (ha.keep fun b hb => h.block b (by omega)).mono fun b hb => ⟨by omega, by rw [h.size]; exact hb.2⟩
theorem Stored.args {w1 w2 : World} {r : Nat} {p : Pay} {A : Option Addr} {n c : Nat} (h : Stored w1 w2 r p A n c) {S : Nat → Prop} {A' : Option Addr} {n' : Nat} {F : Fo} (ha : ArgsIn S w1 A' n' F) (hS : ∀ b, S b → b ≠ r ∧ b < w1.heap.size) : ArgsB w2 w2.heap.size A' n' F :=
  (ha.keep fun b hb => h.block b (hS b hb).1).mono fun b hb => (by have := (hS b hb).2; show b < w2.heap.size; rw [h.size]; exact this)

/-- A term that a function makes: it lies in what the call made; nothing that was there has turned. -/
def Makes (p : Pay) (l : Fo) (w : World) (e : Ending) (w' : World) : Prop :=
  ∃ A c, e = .returned (tv p A (Tm.len l) c) ∧ ArgsIn (fun b => w.heap.size ≤ b ∧ b < w'.heap.size) w' A (Tm.len l) l ∧ Below w.heap.size w w'
end Go.Proofs.Ytapcnehpechkpaa
