/-
  PLAIN MATHEMATICS over terms: a row of terms as a forest (the first one's kind, number and name, its arguments, the terms behind it), and how such a row lies in memory.
-/
import Derived.Below
import Derived.WalkKit
import Derived.Lib.Hide
namespace Go.Proofs.Ytapcnehpechkpaa
set_option linter.unusedVariables false
set_option linter.unusedSimpArgs false
set_option maxRecDepth 100000
open Go.RowKit

/-- Kind, number, name. -/
abbrev Pay := Int × Int × ByteArray
/-- A row of terms. -/
inductive Fo where
  | nil : Fo
  | node : Pay → Fo → Fo → Fo

namespace Tm
def len : Fo → Nat
  | .nil => 0
  | .node _ _ r => len r + 1
def size : Fo → Nat
  | .nil => 0
  | .node _ l r => 1 + size l + size r
def dropF : Fo → Nat → Fo
  | F, 0 => F
  | .nil, _ + 1 => .nil
  | .node _ _ r, k + 1 => dropF r k
def app : Fo → Fo → Fo
  | .nil, G => G
  | .node p l r, G => .node p l (app r G)

theorem len_le_size (F : Fo) : len F ≤ size F := by
  induction F with
  | nil => exact Nat.le_refl _
  | node p l r _ ih => simp only [len, size]; omega
theorem drop_zero (F : Fo) : dropF F 0 = F := by cases F <;> rfl
theorem drop_nil (k : Nat) : dropF .nil k = .nil := by cases k <;> rfl
theorem len_drop (F : Fo) (k : Nat) : len (dropF F k) = len F - k := by
  induction F generalizing k with
  | nil => rw [drop_nil]; simp [len]
  | node p l r _ ih =>
    cases k with
    | zero => rfl
    | succ k => simp only [dropF, len, ih]; omega
theorem drop_succ {F : Fo} {k : Nat} {p : Pay} {l r : Fo} (h : dropF F k = .node p l r) : dropF F (k + 1) = r := by
  induction F generalizing k with
  | nil => rw [drop_nil] at h; cases h
  | node p' l' r' _ ih =>
    cases k with
    | zero => cases h; exact drop_zero _
    | succ k => exact ih h
theorem drop_at {F : Fo} {k : Nat} (h : k < len F) : ∃ p l r, dropF F k = .node p l r := by
  have e := len_drop F k
  cases hd : dropF F k with
  | nil => rw [hd] at e; simp only [len] at e; omega
  | node p l r => exact ⟨p, l, r, rfl⟩
theorem drop_end (F : Fo) : dropF F (len F) = .nil := by
  have e := len_drop F (len F)
  cases hd : dropF F (len F) with
  | nil => rfl
  | node p l r => rw [hd] at e; simp only [len] at e; omega
theorem size_drop_le (F : Fo) (k : Nat) : size (dropF F k) ≤ size F := by
  induction F generalizing k with
  | nil => rw [drop_nil]; exact Nat.le_refl _
  | node p l r _ ih =>
    cases k with
    | zero => exact Nat.le_refl _
    | succ k => simp only [dropF, size]; have := ih k; omega
theorem app_nil (F : Fo) : app F .nil = F := by
  induction F with
  | nil => rfl
  | node p l r _ ih => simp only [app, ih]
theorem app_assoc (F G H : Fo) : app (app F G) H = app F (app G H) := by
  induction F with
  | nil => rfl
  | node p l r _ ih => simp only [app, ih]
theorem len_app (F G : Fo) : len (app F G) = len F + len G := by
  induction F with
  | nil => simp [app, len]
  | node p l r _ ih => simp only [app, len, ih]; omega
theorem size_app (F G : Fo) : size (app F G) = size F + size G := by
  induction F with
  | nil => simp [app, size]
  | node p l r _ ih => simp only [app, size, ih]; omega
theorem len_zero {F : Fo} (h : len F = 0) : F = .nil := by
  cases F with
  | nil => rfl
  | node p l r => simp only [len] at h; omega

/-! ### equality -/
def sameB : Fo → Fo → Bool
  | .nil, .nil => true
  | .node p l r, .node p' l' r' => decide (p.1 = p'.1) && decide (p.2.1 = p'.2.1) && decide (p.2.2 = p'.2.2) && sameB l l' && sameB r r'
  | _, _ => false
theorem sameB_eq : ∀ (F G : Fo), sameB F G = true ↔ F = G
  | .nil, .nil => by simp [sameB]
  | .nil, .node _ _ _ => by simp [sameB]
  | .node _ _ _, .nil => by simp [sameB]
  | .node p l r, .node p' l' r' => by
    obtain ⟨a, b, c⟩ := p
    obtain ⟨a', b', c'⟩ := p'
    simp only [sameB, Bool.and_eq_true, decide_eq_true_eq, sameB_eq l l', sameB_eq r r', Fo.node.injEq, Prod.mk.injEq]
    constructor
    · rintro ⟨⟨⟨⟨h1, h2⟩, h3⟩, h4⟩, h5⟩; exact ⟨⟨h1, h2, h3⟩, h4, h5⟩
    · rintro ⟨⟨h1, h2, h3⟩, h4, h5⟩; exact ⟨⟨⟨⟨h1, h2⟩, h3⟩, h4⟩, h5⟩
/-- Two terms are the same. -/
def sameT (p : Pay) (l : Fo) (p' : Pay) (l' : Fo) : Bool := decide (p.1 = p'.1) && decide (p.2.1 = p'.2.1) && decide (p.2.2 = p'.2.2) && sameB l l'
theorem sameT_eq (p : Pay) (l : Fo) (p' : Pay) (l' : Fo) : sameT p l p' l' = true ↔ p = p' ∧ l = l' := by
  obtain ⟨a, b, c⟩ := p
  obtain ⟨a', b', c'⟩ := p'
  simp only [sameT, Bool.and_eq_true, decide_eq_true_eq, sameB_eq, Prod.mk.injEq]
  constructor
  · rintro ⟨⟨⟨h1, h2⟩, h3⟩, h4⟩; exact ⟨⟨h1, h2, h3⟩, h4⟩
  · rintro ⟨⟨h1, h2, h3⟩, h4⟩; exact ⟨⟨⟨h1, h2⟩, h3⟩, h4⟩
theorem sameT_refl (p : Pay) (l : Fo) : sameT p l p l = true := (sameT_eq _ _ _ _).2 ⟨rfl, rfl⟩
theorem sameB_cons (p : Pay) (l r : Fo) (p' : Pay) (l' r' : Fo) : sameB (.node p l r) (.node p' l' r') = (sameT p l p' l' && sameB r r') := rfl
theorem sameB_len {F G : Fo} (h : len F ≠ len G) : sameB F G = false := by
  cases hs : sameB F G with
  | false => rfl
  | true => exact absurd (congrArg len ((sameB_eq _ _).1 hs)) h

/-! ### valid terms -/
/-- A node is valid, apart from its arguments. -/
def nodeB (p : Pay) (n : Nat) : Bool :=
  if p.1 = 0 then decide (0 ≤ p.2.1) && decide (p.2.1 ≤ 1099511627776) && decide (p.2.2.size = 0) && decide (n = 0)
  else if p.1 = 1 then decide (p.2.2.size = 0) && decide (n = 0)
  else if p.1 = 2 then decide (p.2.1 = 0) && decide (p.2.2.size ≤ 100) && decide (n = 0)
  else if p.1 = 3 then decide (p.2.1 = 0) && decide (p.2.2.size ≤ 100) && decide (1 ≤ n) && decide (n ≤ 8)
  else false
def allB : Fo → Bool
  | .nil => true
  | .node p l r => nodeB p (len l) && allB l && allB r
/-- Every node of a term is valid. -/
def goodB (p : Pay) (l : Fo) : Bool := nodeB p (len l) && allB l
/-- A term (its own parts p, its arguments l) is valid. -/
def validB (p : Pay) (l : Fo) : Bool := decide (1 + size l ≤ 2000) && goodB p l
/-- The number of nodes, at most 2001. -/
def sizeB (l : Fo) : Nat := min (1 + size l) 2001
theorem allB_cons (p : Pay) (l r : Fo) : allB (.node p l r) = (goodB p l && allB r) := rfl
theorem allB_drop {F : Fo} (h : allB F = true) (k : Nat) : allB (dropF F k) = true := by
  induction F generalizing k with
  | nil => rw [drop_nil]; rfl
  | node p l r _ ih =>
    cases k with
    | zero => exact h
    | succ k => simp only [allB, Bool.and_eq_true] at h; exact ih h.2 k
end Tm

/-! ### in memory -/
/-- A term value. -/
abbrev tv (p : Pay) (A : Option Addr) (n c : Nat) : Value := .agg #[.int .i64 p.1, .int .i64 p.2.1, .string p.2.2, .slice A n c]
/-- The row of terms F lies in block b from offset o on; each row that it leads to lies in a place of S. -/
def RowIn (S : Nat → Prop) (w : World) : Fo → Nat → Nat → Prop
  | .nil, _, _ => True
  | .node p l r, b, o => w.cell? ⟨b, o, none⟩ = some (.int .i64 p.1) ∧ w.cell? ⟨b, o + 1, none⟩ = some (.int .i64 p.2.1) ∧ w.cell? ⟨b, o + 2, none⟩ = some (.string p.2.2) ∧
      (∃ A c, w.cell? ⟨b, o + 3, none⟩ = some (.slice A (Tm.len l) c) ∧ Tm.len l ≤ 9223372036854775807 ∧ (0 < Tm.len l → ∃ b1 o1, A = some ⟨b1, o1, none⟩ ∧ S b1 ∧ RowIn S w l b1 o1)) ∧ RowIn S w r b (o + 4)
/-- A slice value (A, n) of terms reads as F. -/
structure ArgsIn (S : Nat → Prop) (w : World) (A : Option Addr) (n : Nat) (F : Fo) : Prop where
  len : Tm.len F = n
  hi : n ≤ 9223372036854775807
  row : 0 < n → ∃ b o, A = some ⟨b, o, none⟩ ∧ S b ∧ RowIn S w F b o

theorem cell_of_block {w w' : World} {p : Addr} (h : w'.heap[p.block]? = w.heap[p.block]?) : w'.cell? p = w.cell? p := by simp [World.cell?, h]
theorem RowIn.keep {S : Nat → Prop} {w w' : World} (hk : ∀ b, S b → w'.heap[b]? = w.heap[b]?) : ∀ (F : Fo) (b o : Nat), S b → RowIn S w F b o → RowIn S w' F b o := by
  intro F
  induction F with
  | nil => intro _ _ _ _; trivial
  | node p l r ihl ihr =>
    rintro b o hb ⟨h3, h4, h5, ⟨A, c, h6, hle, h7⟩, h8⟩
    have hc : ∀ i, w'.cell? ⟨b, i, none⟩ = w.cell? ⟨b, i, none⟩ := fun i => cell_of_block (hk b hb)
    refine ⟨(hc _).trans h3, (hc _).trans h4, (hc _).trans h5, ⟨A, c, (hc _).trans h6, hle, fun h => ?_⟩, ihr b (o + 4) hb h8⟩
    obtain ⟨b1, o1, e, hb1, hr⟩ := h7 h
    exact ⟨b1, o1, e, hb1, ihl b1 o1 hb1 hr⟩
theorem RowIn.mono {S S' : Nat → Prop} {w : World} (hS : ∀ b, S b → S' b) : ∀ (F : Fo) (b o : Nat), RowIn S w F b o → RowIn S' w F b o := by
  intro F
  induction F with
  | nil => intro _ _ _; trivial
  | node p l r ihl ihr =>
    rintro b o ⟨h3, h4, h5, ⟨A, c, h6, hle, h7⟩, h8⟩
    refine ⟨h3, h4, h5, ⟨A, c, h6, hle, fun h => ?_⟩, ihr b (o + 4) h8⟩
    obtain ⟨b1, o1, e, hb1, hr⟩ := h7 h
    exact ⟨b1, o1, e, hS _ hb1, ihl b1 o1 hr⟩
theorem ArgsIn.keep {S : Nat → Prop} {w w' : World} {n : Nat} {A : Option Addr} {F : Fo} (h : ArgsIn S w A n F) (hk : ∀ b, S b → w'.heap[b]? = w.heap[b]?) : ArgsIn S w' A n F :=
  ⟨h.len, h.hi, fun hn => by obtain ⟨b, o, e, hb, hr⟩ := h.row hn; exact ⟨b, o, e, hb, hr.keep hk F b o hb⟩⟩
theorem ArgsIn.mono {S S' : Nat → Prop} {w : World} {n : Nat} {A : Option Addr} {F : Fo} (h : ArgsIn S w A n F) (hS : ∀ b, S b → S' b) : ArgsIn S' w A n F :=
  ⟨h.len, h.hi, fun hn => by obtain ⟨b, o, e, hb, hr⟩ := h.row hn; exact ⟨b, o, e, hS _ hb, hr.mono hS F b o⟩⟩
theorem ArgsIn.nil (S : Nat → Prop) (w : World) (A : Option Addr) : ArgsIn S w A 0 .nil := ⟨rfl, by decide, fun h => absurd h (by omega)⟩
/-- Below a bound. -/
abbrev ArgsB (w : World) (B : Nat) (A : Option Addr) (n : Nat) (F : Fo) : Prop := ArgsIn (fun b => b < B) w A n F
theorem ArgsIn.below {w w' : World} {B B' n : Nat} {A : Option Addr} {F : Fo} (h : ArgsB w B A n F) (hb : Below B' w w') (hB : B ≤ B') : ArgsB w' B A n F := h.keep fun b (hlt : b < B) => hb.block b (by omega)
theorem ArgsIn.up {w : World} {B B' n : Nat} {A : Option Addr} {F : Fo} (h : ArgsB w B A n F) (hB : B ≤ B') : ArgsB w B' A n F := h.mono fun b (hlt : b < B) => (by show b < B'; omega)

/-- What lies at place k of a row. -/
structure NodeAt (S : Nat → Prop) (w : World) (b o : Nat) (p : Pay) (l : Fo) (A : Option Addr) (c : Nat) : Prop where
  kind : w.cell? ⟨b, o, none⟩ = some (.int .i64 p.1)
  num : w.cell? ⟨b, o + 1, none⟩ = some (.int .i64 p.2.1)
  name : w.cell? ⟨b, o + 2, none⟩ = some (.string p.2.2)
  args : w.cell? ⟨b, o + 3, none⟩ = some (.slice A (Tm.len l) c)
  inn : ArgsIn S w A (Tm.len l) l
theorem RowIn.at {S : Nat → Prop} {w : World} : ∀ (F : Fo) (b o k : Nat) (p : Pay) (l r : Fo), RowIn S w F b o → Tm.dropF F k = .node p l r → ∃ A c, NodeAt S w b (o + k * 4) p l A c := by
  intro F
  induction F with
  | nil => intro b o k p l r _ h; rw [Tm.drop_nil] at h; cases h
  | node p0 l0 r0 ihl ihr =>
    rintro b o k p l r ⟨h3, h4, h5, ⟨A, c, h6, hle, h7⟩, h8⟩ h
    cases k with
    | zero =>
      cases h
      rw [Nat.zero_mul, Nat.add_zero]
      exact ⟨A, c, h3, h4, h5, h6, ⟨rfl, hle, h7⟩⟩
    | succ k =>
      obtain ⟨A', c', hn⟩ := ihr b (o + 4) k p l r h8 h
      exact ⟨A', c', by rw [show o + (k + 1) * 4 = o + 4 + k * 4 by omega]; exact hn⟩
theorem ArgsIn.at {S : Nat → Prop} {w : World} {A : Option Addr} {n : Nat} {F : Fo} (h : ArgsIn S w A n F) {k : Nat} (hk : k < n) :
    ∃ b o p l r A' c, A = some ⟨b, o, none⟩ ∧ S b ∧ Tm.dropF F k = .node p l r ∧ NodeAt S w b (o + k * 4) p l A' c := by
  obtain ⟨b, o, e, hb, hr⟩ := h.row (by omega)
  obtain ⟨p, l, r, hd⟩ := Tm.drop_at (F := F) (k := k) (by rw [h.len]; exact hk)
  obtain ⟨A', c, hn⟩ := hr.at F b o k p l r hd
  exact ⟨b, o, p, l, r, A', c, e, hb, hd, hn⟩

/-! ### a list of term values -/
def tcells (vs : List Value) : List Value := vs.flatMap fun v => v.cells.toList
def Vals (S : Nat → Prop) (w : World) : List Value → Fo → Prop
  | [], .nil => True
  | v :: vs, .node p l r => (∃ A c, v = tv p A (Tm.len l) c ∧ ArgsIn S w A (Tm.len l) l) ∧ Vals S w vs r
  | _, _ => False
theorem Vals.keep {S : Nat → Prop} {w w' : World} (hk : ∀ b, S b → w'.heap[b]? = w.heap[b]?) : ∀ (vs : List Value) (F : Fo), Vals S w vs F → Vals S w' vs F
  | [], .nil, _ => trivial
  | [], .node _ _ _, h => h
  | _ :: _, .nil, h => h
  | v :: vs, .node p l r, ⟨⟨A, c, e, h⟩, h'⟩ => ⟨⟨A, c, e, h.keep hk⟩, Vals.keep hk vs r h'⟩
theorem Vals.mono {S S' : Nat → Prop} {w : World} (hS : ∀ b, S b → S' b) : ∀ (vs : List Value) (F : Fo), Vals S w vs F → Vals S' w vs F
  | [], .nil, _ => trivial
  | [], .node _ _ _, h => h
  | _ :: _, .nil, h => h
  | v :: vs, .node p l r, ⟨⟨A, c, e, h⟩, h'⟩ => ⟨⟨A, c, e, h.mono hS⟩, Vals.mono hS vs r h'⟩
theorem Vals.len {S : Nat → Prop} {w : World} : ∀ (vs : List Value) (F : Fo), Vals S w vs F → vs.length = Tm.len F
  | [], .nil, _ => rfl
  | [], .node _ _ _, h => h.elim
  | _ :: _, .nil, h => h.elim
  | v :: vs, .node p l r, ⟨_, h'⟩ => by simp only [List.length_cons, Tm.len, Vals.len vs r h']
theorem Vals.snoc {S : Nat → Prop} {w : World} {p : Pay} {l : Fo} {A : Option Addr} {c : Nat} (ha : ArgsIn S w A (Tm.len l) l) : ∀ (vs : List Value) (F : Fo), Vals S w vs F → Vals S w (vs ++ [tv p A (Tm.len l) c]) (Tm.app F (.node p l .nil))
  | [], .nil, _ => ⟨⟨A, c, rfl, ha⟩, trivial⟩
  | [], .node _ _ _, h => h.elim
  | _ :: _, .nil, h => h.elim
  | v :: vs, .node p l r, ⟨h, h'⟩ => ⟨h, Vals.snoc ha vs r h'⟩
theorem Vals.tcells_len {S : Nat → Prop} {w : World} : ∀ (vs : List Value) (F : Fo), Vals S w vs F → (tcells vs).length = vs.length * 4
  | [], .nil, _ => rfl
  | [], .node _ _ _, h => h.elim
  | _ :: _, .nil, h => h.elim
  | v :: vs, .node p l r, ⟨⟨A, c, e, _⟩, h'⟩ => by
    have := Vals.tcells_len vs r h'
    subst e
    simp only [tcells, List.flatMap_cons, List.length_append, List.length_cons] at this ⊢
    rw [this]
    simp [Value.cells]
    omega
theorem Vals.one {S : Nat → Prop} {w : World} : ∀ (vs : List Value) (F : Fo), Vals S w vs F → ∀ u ∈ tcells vs, u.oneCell' = true
  | [], .nil, _ => by simp [tcells]
  | [], .node _ _ _, h => h.elim
  | _ :: _, .nil, h => h.elim
  | v :: vs, .node p l r, ⟨⟨A, c, e, _⟩, h'⟩ => by
    have := Vals.one vs r h'
    subst e
    intro u hu
    simp only [tcells, List.flatMap_cons, List.mem_append] at hu
    rcases hu with hu | hu
    · simp [Value.cells] at hu
      rcases hu with rfl | rfl | rfl | rfl <;> rfl
    · exact this u hu
theorem tcells_snoc (vs : List Value) (v : Value) : tcells (vs ++ [v]) = tcells vs ++ v.cells.toList := by simp [tcells]
theorem Vals.row {S : Nat → Prop} {w : World} (b : Nat) : ∀ (vs : List Value) (F : Fo) (o : Nat), Vals S w vs F → (∀ l, Tm.len l ≤ Tm.size l) → (∀ j u, (tcells vs)[j]? = some u → w.cell? ⟨b, o + j, none⟩ = some u) → RowIn S w F b o
  | [], .nil, _, _, _, _ => trivial
  | [], .node _ _ _, _, h, _, _ => h.elim
  | _ :: _, .nil, _, h, _, _ => h.elim
  | v :: vs, .node p l r, o, ⟨⟨A, c, e, ha⟩, h'⟩, hz, hc => by
    subst e
    refine ⟨hc 0 _ rfl, hc 1 _ rfl, hc 2 _ rfl, ⟨A, c, hc 3 _ rfl, ha.hi, ha.row⟩, Vals.row b vs r (o + 4) h' hz fun j u hu => ?_⟩
    rw [show o + 4 + j = o + (j + 4) by omega]
    refine hc (j + 4) u ?_
    show ((tv p A (Tm.len l) c).cells.toList ++ tcells vs)[j + 4]? = some u
    rw [List.getElem?_append_right (by simp [Value.cells])]
    simpa [Value.cells] using hu
theorem Vals.args {S : Nat → Prop} {w : World} {b o : Nat} {vs : List Value} {F : Fo} (hb : S b) (h : Vals S w vs F) (hhi : vs.length ≤ 9223372036854775807) (hc : ∀ j u, (tcells vs)[j]? = some u → w.cell? ⟨b, o + j, none⟩ = some u) : ArgsIn S w (some ⟨b, o, none⟩) vs.length F :=
  ⟨(Vals.len vs F h).symm, hhi, fun _ => ⟨b, o, rfl, hb, Vals.row b vs F o h Tm.len_le_size hc⟩⟩
end Go.Proofs.Ytapcnehpechkpaa
