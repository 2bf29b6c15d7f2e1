/-
  PLAIN MATHEMATICS over tables of pairs, and how a slice of pairs lies in memory.
-/
import Derived.Test.YtdlobgnhoiednaaDoorRefClass
import Derived.Deep.Draws
import Derived.Laws.OwnMore
namespace Go.Proofs.YtdlobgnhoiednaaDoor
set_option linter.unusedVariables false
set_option linter.unusedSimpArgs false
open Go.RowKit

theorem below_drewN {B : Nat} {a w : World} (h : Below B a w) (n : Nat) : Below B a (w.drewN n) := ⟨h.os, h.tape, h.output, h.size, h.block⟩

/-- The table's pairs, with a default. -/
def fs (L : List (Int × Int)) (j : Nat) : Int := (L.getD j (0, 0)).1
def sn (L : List (Int × Int)) (j : Nat) : Int := (L.getD j (0, 0)).2

/-- What Valid asks of the pair at place j. -/
def okAt (L : List (Int × Int)) (j : Nat) : Prop := (0 ≤ fs L j ∧ fs L j ≤ 255) ∧ (0 ≤ sn L j ∧ sn L j ≤ 255) ∧ fs L j ≠ sn L j ∧ (0 < j → fs L (j - 1) < fs L j)
def Good (L : List (Int × Int)) : Prop := ∀ j, j < L.length → okAt L j
instance (L : List (Int × Int)) (j : Nat) : Decidable (okAt L j) := by unfold okAt; exact inferInstance
instance (L : List (Int × Int)) : Decidable (Good L) := by unfold Good; exact inferInstance
def goodB (L : List (Int × Int)) : Bool := decide (Good L)
theorem goodB_false {L : List (Int × Int)} {j : Nat} (hj : j < L.length) (h : ¬ okAt L j) : goodB L = false := by
  unfold goodB
  rw [decide_eq_false]
  exact fun hg => h (hg j hj)
theorem goodB_true {L : List (Int × Int)} (h : ∀ j, j < L.length → okAt L j) : goodB L = true := by
  unfold goodB
  rw [decide_eq_true]
  exact h

/-- The slice value (A, n) reads as the pairs L, below block B. -/
structure PairsIn (w : World) (B : Nat) (A : Option Addr) (n : Nat) (L : List (Int × Int)) : Prop where
  len : L.length = n
  cells : 0 < n → ∃ b off, A = some ⟨b, off, none⟩ ∧ b < B ∧ ∀ j, j < n → w.cell? ⟨b, off + j * 2, none⟩ = some (.int .i64 (fs L j)) ∧ w.cell? ⟨b, off + j * 2 + 1, none⟩ = some (.int .i64 (sn L j))

section
variable {w w' : World} {B B' n : Nat} {A : Option Addr} {L : List (Int × Int)}
theorem PairsIn.keep (h : PairsIn w B A n L) (hk : ∀ p : Addr, p.block < B → w'.cell? p = w.cell? p) : PairsIn w' B A n L :=
  ⟨h.len, fun hn => by
    obtain ⟨b, off, rfl, hb, hc⟩ := h.cells hn
    exact ⟨b, off, rfl, hb, fun j hj => ⟨(hk _ hb).trans (hc j hj).1, (hk _ hb).trans (hc j hj).2⟩⟩⟩
theorem PairsIn.below (h : PairsIn w B A n L) (hb : Below B w w') : PairsIn w' B A n L := h.keep fun _ hp => hb.cell hp
theorem PairsIn.more (h : PairsIn w B A n L) (hB : B ≤ B') : PairsIn w B' A n L :=
  ⟨h.len, fun hn => by
    obtain ⟨b, off, rfl, hb, hc⟩ := h.cells hn
    exact ⟨b, off, rfl, by omega, hc⟩⟩
theorem PairsIn.nil (w : World) (B : Nat) (A : Option Addr) : PairsIn w B A 0 [] := ⟨rfl, fun h => absurd h (by omega)⟩
end

end Go.Proofs.YtdlobgnhoiednaaDoor
