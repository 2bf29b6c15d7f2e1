/-
  PLAIN MATHEMATICS over tables of operators: names in order, which tables are valid, what is found in one, and what setting an operator makes of one. No program in sight.
-/
import Derived.Below
import Derived.WalkKit
import Derived.Lib.Hide
namespace Go.Proofs.YtgbfkchjcjdnnaaDoor
set_option linter.unusedVariables false
set_option linter.unusedSimpArgs false

namespace Tm
/-- Two numbers. -/
def cmpI (a b : Int) : Int := if a < b then -1 else if b < a then 1 else 0
/-- Two names, byte by byte. -/
def cmpL : List UInt8 → List UInt8 → Int
  | [], [] => 0
  | [], _ :: _ => -1
  | _ :: _, [] => 1
  | x :: xs, y :: ys => if x < y then -1 else if y < x then 1 else cmpL xs ys
def cmpS (a b : ByteArray) : Int := cmpL a.data.toList b.data.toList
def lex (c d : Int) : Int := if c = 0 then d else c
/-- a to b, b to c, a to c. -/
def Fit (x y z : Int) : Prop := (x < 0 → y < 0 → z < 0) ∧ (x = 0 → z = y) ∧ (y = 0 → z = x) ∧ (0 < x → 0 < y → 0 < z)
theorem lex_fit {x y z x' y' z' : Int} (h : Fit x y z) (h' : Fit x' y' z') : Fit (lex x x') (lex y y') (lex z z') := by
  obtain ⟨a1, a2, a3, a4⟩ := h
  obtain ⟨b1, b2, b3, b4⟩ := h'
  unfold lex
  refine ⟨fun h1 h2 => ?_, fun h1 => ?_, fun h1 => ?_, fun h1 h2 => ?_⟩ <;> split at h1 <;> (try split at h2) <;> split <;> (try split) <;> first | omega | skip
theorem lex_neg {x x' y y' : Int} (h : y = -x) (h' : y' = -x') : lex y y' = -(lex x x') := by unfold lex; split <;> split <;> omega
theorem lex_zero {x y : Int} : lex x y = 0 ↔ x = 0 ∧ y = 0 := by
  unfold lex
  split
  · constructor
    · intro h; exact ⟨by assumption, h⟩
    · exact fun h => h.2
  · constructor
    · intro h; exact absurd h (by assumption)
    · intro h; exact absurd h.1 (by assumption)
def Sgn (x : Int) : Prop := x = -1 ∨ x = 0 ∨ x = 1
theorem lex_sgn {x y : Int} (h : Sgn x) (h' : Sgn y) : Sgn (lex x y) := by unfold lex; split <;> assumption
theorem cmpI_sgn (a b : Int) : Sgn (cmpI a b) := by unfold cmpI Sgn; split <;> (try split) <;> omega
theorem cmpI_neg (a b : Int) : cmpI b a = -(cmpI a b) := by unfold cmpI; split <;> split <;> (try split) <;> omega
theorem cmpI_fit (a b c : Int) : Fit (cmpI a b) (cmpI b c) (cmpI a c) := by
  unfold cmpI Fit
  refine ⟨fun h1 h2 => ?_, fun h1 => ?_, fun h1 => ?_, fun h1 h2 => ?_⟩ <;> (repeat' split at *) <;> omega
theorem cmpI_zero (a b : Int) : cmpI a b = 0 ↔ a = b := by unfold cmpI; split <;> (try split) <;> omega
theorem cmpL_sgn : ∀ a b, Sgn (cmpL a b)
  | [], [] => .inr (.inl rfl)
  | [], _ :: _ => .inl rfl
  | _ :: _, [] => .inr (.inr rfl)
  | x :: xs, y :: ys => by
    unfold cmpL
    split
    · exact .inl rfl
    · split
      · exact .inr (.inr rfl)
      · exact cmpL_sgn xs ys
theorem u8_lt (x y : UInt8) : x < y ↔ x.toNat < y.toNat := UInt8.lt_iff_toNat_lt
theorem u8_eq {x y : UInt8} (h : ¬ x < y) (h' : ¬ y < x) : x = y := UInt8.toNat_inj.1 (by rw [u8_lt] at h h'; omega)
theorem cmpL_cons (x : UInt8) (xs : List UInt8) (y : UInt8) (ys : List UInt8) : cmpL (x :: xs) (y :: ys) = lex (cmpI x.toNat y.toNat) (cmpL xs ys) := by
  rw [cmpL]
  unfold lex cmpI
  by_cases h : x < y
  · have h1 := (u8_lt x y).1 h
    have h2 : (x.toNat : Int) < (y.toNat : Int) := by omega
    rw [if_pos h, if_pos h2]; rfl
  · have h1 : ¬ (x.toNat : Int) < (y.toNat : Int) := by rw [u8_lt] at h; omega
    rw [if_neg h, if_neg h1]
    by_cases h' : y < x
    · have h2 := (u8_lt y x).1 h'
      have h3 : (y.toNat : Int) < (x.toNat : Int) := by omega
      rw [if_pos h', if_pos h3]; rfl
    · have h3 : ¬ (y.toNat : Int) < (x.toNat : Int) := by rw [u8_lt] at h'; omega
      rw [if_neg h', if_neg h3]; rfl
theorem cmpL_neg : ∀ a b, cmpL b a = -(cmpL a b)
  | [], [] => rfl
  | [], _ :: _ => rfl
  | _ :: _, [] => rfl
  | x :: xs, y :: ys => by rw [cmpL_cons, cmpL_cons]; exact lex_neg (cmpI_neg _ _) (cmpL_neg xs ys)
theorem cmpL_zero : ∀ a b, cmpL a b = 0 ↔ a = b
  | [], [] => by simp [cmpL]
  | [], _ :: _ => by simp [cmpL]
  | _ :: _, [] => by simp [cmpL]
  | x :: xs, y :: ys => by
    rw [cmpL_cons, lex_zero, cmpI_zero, cmpL_zero xs ys, List.cons.injEq, ← UInt8.toNat_inj, Int.ofNat_inj]
theorem cmpL_fit : ∀ a b c, Fit (cmpL a b) (cmpL b c) (cmpL a c)
  | [], [], [] => by simp [Fit, cmpL]
  | [], [], _ :: _ => by simp [Fit, cmpL]
  | [], _ :: _, [] => by simp [Fit, cmpL]
  | [], y :: ys, z :: zs => by show Fit (-1) _ (-1); unfold Fit; omega
  | _ :: _, [], [] => by simp [Fit, cmpL]
  | x :: xs, [], z :: zs => by show Fit 1 (-1) _; unfold Fit; omega
  | x :: xs, y :: ys, [] => by show Fit _ 1 1; unfold Fit; omega
  | x :: xs, y :: ys, z :: zs => by rw [cmpL_cons, cmpL_cons, cmpL_cons]; exact lex_fit (cmpI_fit _ _ _) (cmpL_fit xs ys zs)
theorem cmpS_neg (s t : ByteArray) : cmpS t s = -(cmpS s t) := cmpL_neg _ _
theorem cmpS_sgn (s t : ByteArray) : Sgn (cmpS s t) := cmpL_sgn _ _
theorem cmpS_fit (a b c : ByteArray) : Fit (cmpS a b) (cmpS b c) (cmpS a c) := cmpL_fit _ _ _
theorem cmpS_zero (s t : ByteArray) : cmpS s t = 0 ↔ s = t := by
  unfold cmpS
  rw [cmpL_zero]
  exact ⟨fun h => ByteArray.ext (Array.toList_inj.1 h), fun h => by rw [h]⟩
/-- The first number that is not 0. -/
def orL : List Int → Int
  | [] => 0
  | x :: xs => lex x (orL xs)
end Tm

namespace Q
open Tm
/-- An operator: name, type, priority. -/
abbrev Ent := ByteArray × Int × Int
def zE : Ent := (⟨#[]⟩, 0, 0)
def ent (L : List Ent) (j : Nat) : Ent := L.getD j zE
theorem ent_at {L : List Ent} {j : Nat} (h : j < L.length) : ent L j = L[j] := by
  unfold ent
  rw [List.getD_eq_getElem?_getD, List.getElem?_eq_getElem h]
  rfl
def cls (t : Int) : Int := if t = 4 ∨ t = 5 then 1 else if t = 1 ∨ t = 2 ∨ t = 3 then 2 else if t = 6 ∨ t = 7 then 3 else 0
def riv (c : Int) : Int := if c = 2 then 3 else if c = 3 then 2 else 0
theorem cls_range (t : Int) : cls t = 0 ∨ cls t = 1 ∨ cls t = 2 ∨ cls t = 3 := by unfold cls; split <;> (try split) <;> (try split) <;> simp
def sComma : ByteArray := ⟨#[44]⟩
def sBar : ByteArray := ⟨#[124]⟩
def sList : ByteArray := ⟨#[91, 93]⟩
def sCurly : ByteArray := ⟨#[123, 125]⟩
def prB (p : Int) : Bool := decide (0 ≤ p) && decide (p ≤ 1200)
def okE (e : Ent) : Bool :=
  decide (e.1.size ≤ 100) && decide (cls e.2.1 ≠ 0) && decide (1 ≤ e.2.2) && decide (e.2.2 ≤ 1200) &&
    (if e.1 = sComma then decide (e.2.1 = 2) && decide (e.2.2 = 1000) else if e.1 = sBar then decide (cls e.2.1 = 2) && decide (1001 ≤ e.2.2) else decide (e.1 ≠ sList) && decide (e.1 ≠ sCurly))
/-- An operator against a class and a name. -/
def cmpE (e : Ent) (nm : ByteArray) (c : Int) : Int := lex (cmpS e.1 nm) (cmpI (cls e.2.1) c)
def keyE (a b : Ent) : Int := cmpE a b.1 (cls b.2.1)
theorem cmpE_sgn (e : Ent) (nm : ByteArray) (c : Int) : Sgn (cmpE e nm c) := lex_sgn (cmpS_sgn _ _) (cmpI_sgn _ _)
theorem cmpE_zero (e : Ent) (nm : ByteArray) (c : Int) : cmpE e nm c = 0 ↔ e.1 = nm ∧ cls e.2.1 = c := by unfold cmpE; rw [lex_zero, cmpS_zero, cmpI_zero]
theorem keyE_fit (a b : Ent) (nm : ByteArray) (c : Int) : Fit (keyE a b) (cmpE b nm c) (cmpE a nm c) := lex_fit (cmpS_fit _ _ _) (cmpI_fit _ _ _)
theorem keyE_neg (a b : Ent) : keyE b a = -(keyE a b) := lex_neg (cmpS_neg _ _) (cmpI_neg _ _)
theorem keyE_trans {a b c : Ent} (h : keyE a b < 0) (h' : keyE b c < 0) : keyE a c < 0 := (keyE_fit a b _ _).1 h h'

/-- What the program asks of an operator behind another one. -/
def mayF (a b : Ent) : Bool := !(decide (a.1 = b.1) && decide (cls a.2.1 = riv (cls b.2.1))) && decide (keyE a b < 0)
/-- What the reference asks. -/
def befB (a b : Ent) : Bool := decide (keyE a b < 0)
def bothB (a b : Ent) : Bool := decide (a.1 = b.1) && decide (cls a.2.1 = 2) && decide (cls b.2.1 = 3)
theorem okE_cls {e : Ent} (h : okE e = true) : cls e.2.1 ≠ 0 := by
  unfold okE at h
  simp only [Bool.and_eq_true, decide_eq_true_eq] at h
  exact h.1.1.1.2
theorem mayF_ref {a b : Ent} (ha : cls a.2.1 ≠ 0) (hb : cls b.2.1 ≠ 0) : mayF a b = (befB a b && !bothB a b) := by
  unfold mayF befB bothB
  by_cases hn : a.1 = b.1
  · have hk : keyE a b = cmpI (cls a.2.1) (cls b.2.1) := by unfold keyE cmpE lex; rw [if_pos ((cmpS_zero _ _).2 hn)]
    rw [hk]
    rcases cls_range a.2.1 with h | h | h | h <;> rcases cls_range b.2.1 with h' | h' | h' | h' <;> simp_all [riv, cmpI]
  · simp [hn]

/-- What is asked of the operator at place j. -/
def okAt (L : List Ent) (j : Nat) : Prop := okE (ent L j) = true ∧ (0 < j → mayF (ent L (j - 1)) (ent L j) = true)
def Good (L : List Ent) : Prop := L.length ≤ 100 ∧ ∀ j, j < L.length → okAt L j
instance (L : List Ent) (j : Nat) : Decidable (okAt L j) := by unfold okAt; exact inferInstance
instance (L : List Ent) : Decidable (Good L) := by unfold Good; exact inferInstance
def goodB (L : List Ent) : Bool := decide (Good L)
theorem goodB_long {L : List Ent} (h : 100 < L.length) : goodB L = false := decide_eq_false fun hg => absurd hg.1 (by omega)
theorem goodB_false {L : List Ent} {j : Nat} (hj : j < L.length) (h : ¬ okAt L j) : goodB L = false := decide_eq_false fun hg => h (hg.2 j hj)
theorem goodB_true {L : List Ent} (hl : L.length ≤ 100) (h : ∀ j, j < L.length → okAt L j) : goodB L = true := decide_eq_true ⟨hl, h⟩
theorem goodB_iff {L : List Ent} : goodB L = true ↔ Good L := decide_eq_true_iff

/-! ### the order of a valid table -/
def Sorted (L : List Ent) : Prop := ∀ i j, i < j → j < L.length → keyE (ent L i) (ent L j) < 0
theorem Good.sorted {L : List Ent} (h : Good L) : Sorted L := by
  intro i j hij hj
  induction j with
  | zero => omega
  | succ k ih =>
    have h1 := (h.2 (k + 1) hj).2 (by omega)
    simp only [Nat.add_sub_cancel] at h1
    unfold mayF at h1
    simp only [Bool.and_eq_true, decide_eq_true_eq] at h1
    by_cases hik : i = k
    · subst hik; exact h1.2
    · exact keyE_trans (ih (by omega) (by omega)) h1.2

/-- The place of a class and a name. -/
def IsPos (L : List Ent) (nm : ByteArray) (c : Int) (i : Nat) : Prop := i ≤ L.length ∧ (∀ j, j < i → cmpE (ent L j) nm c < 0) ∧ ∀ j, i ≤ j → j < L.length → 0 ≤ cmpE (ent L j) nm c
def hitB (L : List Ent) (nm : ByteArray) (c : Int) (i : Nat) : Bool := decide (i < L.length ∧ cmpE (ent L i) nm c = 0)
theorem hitB_yes {L : List Ent} {nm : ByteArray} {c : Int} {i : Nat} (h : i < L.length ∧ cmpE (ent L i) nm c = 0) : hitB L nm c i = true := decide_eq_true h
theorem hitB_no {L : List Ent} {nm : ByteArray} {c : Int} {i : Nat} (h : ¬ (i < L.length ∧ cmpE (ent L i) nm c = 0)) : hitB L nm c i = false := decide_eq_false h

/-- Whether an operator has a class and a name; the first one that has. -/
def isB (c : Int) (nm : ByteArray) (e : Ent) : Bool := decide (cls e.2.1 = c) && decide (e.1 = nm)
theorem isB_zero (c : Int) (nm : ByteArray) (e : Ent) : isB c nm e = decide (cmpE e nm c = 0) := by
  unfold isB
  rw [Bool.eq_iff_iff, Bool.and_eq_true, decide_eq_true_eq, decide_eq_true_eq, decide_eq_true_eq, cmpE_zero]
  exact And.comm
def findM (L : List Ent) (c : Int) (nm : ByteArray) : Option Ent := L.find? (isB c nm)
def lookM (L : List Ent) (c : Int) (nm : ByteArray) : Option Ent := if goodB L then findM L c nm else none

theorem parts {L : List Ent} {nm : ByteArray} {c : Int} {i : Nat} (h : IsPos L nm c i) (hs : Sorted L) :
    (∀ e ∈ L.take i, cmpE e nm c < 0) ∧ (∀ e ∈ L.drop (if hitB L nm c i then i + 1 else i), 0 < cmpE e nm c) ∧ (hitB L nm c i = true → i < L.length ∧ cmpE (ent L i) nm c = 0) := by
  have hy : hitB L nm c i = true → i < L.length ∧ cmpE (ent L i) nm c = 0 := fun h => of_decide_eq_true h
  refine ⟨fun e he => ?_, fun e he => ?_, hy⟩
  · obtain ⟨j, hj, rfl⟩ := List.getElem_of_mem he
    have hj' : j < i := by simp at hj; omega
    have := h.2.1 j hj'
    rw [ent_at (by have := h.1; omega)] at this
    rw [List.getElem_take]
    exact this
  · obtain ⟨j, hj, rfl⟩ := List.getElem_of_mem he
    rw [List.length_drop] at hj
    rw [List.getElem_drop, ← ent_at]
    clear he
    cases hh : hitB L nm c i
    · rw [hh] at hj
      simp only [Bool.false_eq_true, if_false] at hj ⊢
      have h1 := h.2.2 (i + j) (by omega) (by omega)
      have hn : ¬ (i < L.length ∧ cmpE (ent L i) nm c = 0) := of_decide_eq_false hh
      by_cases hj0 : j = 0
      · subst hj0
        have : cmpE (ent L (i + 0)) nm c ≠ 0 := fun e => hn ⟨by omega, e⟩
        omega
      · have h2 := h.2.2 i (by omega) (by omega)
        have h3 := hs i (i + j) (by omega) (by omega)
        obtain ⟨f1, f2, f3, f4⟩ := keyE_fit (ent L (i + j)) (ent L i) nm c
        have h4 := keyE_neg (ent L i) (ent L (i + j))
        have h5 : cmpE (ent L i) nm c ≠ 0 := fun e => hn ⟨by omega, e⟩
        exact f4 (by omega) (by omega)
    · have hyy := hy hh
      rw [hh] at hj
      simp only [if_true] at hj ⊢
      have h3 := hs i (i + 1 + j) (by omega) (by omega)
      obtain ⟨f1, f2, f3, f4⟩ := keyE_fit (ent L (i + 1 + j)) (ent L i) nm c
      have h4 := keyE_neg (ent L i) (ent L (i + 1 + j))
      have := f3 hyy.2
      omega
theorem split_at {L : List Ent} {nm : ByteArray} {c : Int} {i : Nat} (h : hitB L nm c i = true → i < L.length ∧ cmpE (ent L i) nm c = 0) :
    L = L.take i ++ ((if hitB L nm c i then [ent L i] else []) ++ L.drop (if hitB L nm c i then i + 1 else i)) := by
  cases hh : hitB L nm c i
  · simp
  · have h1 := (h hh).1
    rw [ent_at h1]
    simp
theorem findM_pos {L : List Ent} {nm : ByteArray} {c : Int} {i : Nat} (h : IsPos L nm c i) (hs : Sorted L) : findM L c nm = if hitB L nm c i then some (ent L i) else none := by
  obtain ⟨p1, p2, p3⟩ := parts h hs
  have n1 : (L.take i).find? (isB c nm) = none := by
    rw [List.find?_eq_none]
    intro e he
    rw [isB_zero, decide_eq_true_eq]
    have := p1 e he
    omega
  have n2 : (L.drop (if hitB L nm c i then i + 1 else i)).find? (isB c nm) = none := by
    rw [List.find?_eq_none]
    intro e he
    rw [isB_zero, decide_eq_true_eq]
    have := p2 e he
    omega
  unfold findM
  conv => lhs; rw [split_at p3]
  rw [List.find?_append, n1, List.find?_append, n2]
  cases hh : hitB L nm c i
  · simp
  · have := (p3 hh).2
    simp [List.find?, isB_zero, this]

/-! ### setting -/
def withoutM (L : List Ent) (c : Int) (nm : ByteArray) : List Ent := L.filter fun e => !isB c nm e
def withM (op : Ent) : List Ent → List Ent
  | [] => [op]
  | x :: r => if befB op x then op :: x :: r else x :: withM op r
theorem withoutM_pos {L : List Ent} {nm : ByteArray} {c : Int} {i : Nat} (h : IsPos L nm c i) (hs : Sorted L) : withoutM L c nm = L.take i ++ L.drop (if hitB L nm c i then i + 1 else i) := by
  obtain ⟨p1, p2, p3⟩ := parts h hs
  unfold withoutM
  conv => lhs; rw [split_at p3]
  rw [List.filter_append, List.filter_append]
  have e1 : (L.take i).filter (fun e => !isB c nm e) = L.take i := by
    rw [List.filter_eq_self]
    intro e he
    have := p1 e he
    rw [isB_zero, Bool.not_eq_true', decide_eq_false_iff_not]
    omega
  have e2 : (L.drop (if hitB L nm c i then i + 1 else i)).filter (fun e => !isB c nm e) = L.drop (if hitB L nm c i then i + 1 else i) := by
    rw [List.filter_eq_self]
    intro e he
    have := p2 e he
    rw [isB_zero, Bool.not_eq_true', decide_eq_false_iff_not]
    omega
  rw [e1, e2]
  cases hh : hitB L nm c i
  · simp
  · have := (p3 hh).2
    simp [isB_zero, this]
theorem withM_append {op : Ent} : ∀ {A : List Ent} (B : List Ent), (∀ e ∈ A, befB op e = false) → withM op (A ++ B) = A ++ withM op B
  | [], _, _ => rfl
  | a :: A, B, h => by
    simp only [List.cons_append, withM]
    rw [h a (List.mem_cons_self ..)]
    simp only [Bool.false_eq_true, if_false]
    rw [withM_append B fun e he => h e (List.mem_cons_of_mem _ he)]
theorem withM_head {op : Ent} : ∀ {B : List Ent}, (∀ e ∈ B, befB op e = true) → withM op B = op :: B
  | [], _ => rfl
  | b :: B, h => by
    simp only [withM]
    rw [h b (List.mem_cons_self ..)]
    rfl
theorem setM_pos {L : List Ent} {nm : ByteArray} {t p : Int} {i : Nat} (h : IsPos L nm (cls t) i) (hs : Sorted L) :
    withM (nm, t, p) (withoutM L (cls t) nm) = L.take i ++ (nm, t, p) :: L.drop (if hitB L nm (cls t) i then i + 1 else i) := by
  obtain ⟨p1, p2, p3⟩ := parts h hs
  rw [withoutM_pos h hs]
  have hk : ∀ e : Ent, keyE (nm, t, p) e = -(cmpE e nm (cls t)) := fun e => keyE_neg e (nm, t, p)
  rw [withM_append _ fun e he => ?_, withM_head fun e he => ?_]
  · unfold befB
    rw [decide_eq_true_eq, hk]
    have := p2 e he
    omega
  · unfold befB
    rw [decide_eq_false_iff_not, hk]
    have := p1 e he
    omega

/-! ### what Set answers -/
def argB (L : List Ent) (p t : Int) (nm : ByteArray) : Bool := goodB L && prB p && decide (cls t ≠ 0) && decide (nm.size ≤ 100)
def mayB (L : List Ent) (p c : Int) (nm : ByteArray) : Bool :=
  if nm = sComma ∨ nm = sList ∨ nm = sCurly then false else if nm = sBar then decide (c = 2) && (decide (p = 0) || decide (1001 ≤ p)) else decide (p = 0) || (findM L (riv c) nm).isNone
def fullB (L : List Ent) (p c : Int) (nm : ByteArray) : Bool := decide (0 < p) && (findM L c nm).isNone && decide (L.length = 100)
def setM (L : List Ent) (p t : Int) (nm : ByteArray) : List Ent := if 0 < p then withM (nm, t, p) (withoutM L (cls t) nm) else withoutM L (cls t) nm
def errM (L : List Ent) (p t : Int) (nm : ByteArray) : Int := if argB L p t nm then if mayB L p (cls t) nm then if fullB L p (cls t) nm then 13 else 0 else 5 else 1
def resM (L : List Ent) (p t : Int) (nm : ByteArray) : List Ent := if errM L p t nm = 0 then setM L p t nm else []
end Q
end Go.Proofs.YtgbfkchjcjdnnaaDoor
