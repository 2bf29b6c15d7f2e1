/-
  PLAIN MATHEMATICS: the standard order of terms, and that it is total; lists sorted by a key, equal keys in the order of their numbers, are unique.
  A region that draws its order, whose operations only read and whose callees leave all that was there: walked once, in any world that has all the old blocks.
  Numbers and names compared: the library's Compare and Or, the reference's number and Names.
  The reference's Names; the library's Or and CompareFunc.
  More operations of a region: fields, cells, tables, slices of numbers, comparisons of numbers.
  The library's CompareFunc at terms and package order's compare: the rows from left to right.
  Package order's compare.
  The reference's compare.
  The two Cmps.
-/
import Derived.Test.YtcjakmafojbhlaaDoorForest
import Derived.Test.YtcjakmafojbhlaaDoorPartA
import Derived.Deep.QuietTactic
import Derived.Sort.Walk0
import Derived.Laws.Cover1
namespace Go.Proofs.YtcjakmafojbhlaaDoor
set_option linter.unusedVariables false
set_option linter.unusedSimpArgs false
open Go.RowKit

namespace Tm
/-- Two numbers. -/
def cmpI (a b : Int) : Int := if a < b then -1 else if b < a then 1 else 0
/-- Two names, byte by byte. -/
def cmpL : List UInt8 → List UInt8 → Int
  | [], [] => 0
  | [], _ :: _ => -1
  | _ :: _, [] => 1
  | x :: xs, y :: ys => if x < y then -1 else if y < x then 1 else cmpL xs ys
def cmpS (a b : ByteArray) : Int := cmpL a.data.toList b.data.toList
def lex (c d : Int) : Int := if c = 0 then d else c
/-- Two terms without their arguments. -/
def headC (p : Pay) (n : Nat) (p' : Pay) (n' : Nat) : Int := lex (cmpI p.1 p'.1) (lex (cmpI p.2.1 p'.2.1) (lex (cmpI n n') (cmpS p.2.2 p'.2.2)))
/-- Two rows of terms, from left to right. -/
def cmpF : Fo → Fo → Int
  | .nil, .nil => 0
  | .nil, .node _ _ _ => -1
  | .node _ _ _, .nil => 1
  | .node p l r, .node p' l' r' => lex (lex (headC p (len l) p' (len l')) (cmpF l l')) (cmpF r r')
/-- Two terms. -/
def cmpT (p : Pay) (l : Fo) (p' : Pay) (l' : Fo) : Int := lex (headC p (len l) p' (len l')) (cmpF l l')
theorem cmpF_cons (p : Pay) (l r : Fo) (p' : Pay) (l' r' : Fo) : cmpF (.node p l r) (.node p' l' r') = lex (cmpT p l p' l') (cmpF r r') := rfl

/-! ### three results of comparisons that fit together -/
/-- a to b, b to c, a to c. -/
def Fit (x y z : Int) : Prop := (x < 0 → y < 0 → z < 0) ∧ (x = 0 → z = y) ∧ (y = 0 → z = x) ∧ (0 < x → 0 < y → 0 < z)
theorem lex_fit {x y z x' y' z' : Int} (h : Fit x y z) (h' : Fit x' y' z') : Fit (lex x x') (lex y y') (lex z z') := by
  obtain ⟨a1, a2, a3, a4⟩ := h
  obtain ⟨b1, b2, b3, b4⟩ := h'
  unfold lex
  refine ⟨fun h1 h2 => ?_, fun h1 => ?_, fun h1 => ?_, fun h1 h2 => ?_⟩ <;> split at h1 <;> (try split at h2) <;> split <;> (try split) <;> first | omega | skip
theorem lex_neg {x x' y y' : Int} (h : y = -x) (h' : y' = -x') : lex y y' = -(lex x x') := by unfold lex; split <;> split <;> omega
theorem lex_zero {x y : Int} : lex x y = 0 ↔ x = 0 ∧ y = 0 := by
  unfold lex
  split
  · constructor
    · intro h; exact ⟨by assumption, h⟩
    · exact fun h => h.2
  · constructor
    · intro h; exact absurd h (by assumption)
    · intro h; exact absurd h.1 (by assumption)
def Sgn (x : Int) : Prop := x = -1 ∨ x = 0 ∨ x = 1
theorem lex_sgn {x y : Int} (h : Sgn x) (h' : Sgn y) : Sgn (lex x y) := by unfold lex; split <;> assumption

theorem cmpI_sgn (a b : Int) : Sgn (cmpI a b) := by unfold cmpI Sgn; split <;> (try split) <;> omega
theorem cmpI_neg (a b : Int) : cmpI b a = -(cmpI a b) := by unfold cmpI; split <;> split <;> (try split) <;> omega
theorem cmpI_fit (a b c : Int) : Fit (cmpI a b) (cmpI b c) (cmpI a c) := by
  unfold cmpI Fit
  refine ⟨fun h1 h2 => ?_, fun h1 => ?_, fun h1 => ?_, fun h1 h2 => ?_⟩ <;> (repeat' split at *) <;> omega
theorem cmpI_zero (a b : Int) : cmpI a b = 0 ↔ a = b := by unfold cmpI; split <;> (try split) <;> omega
theorem cmpL_sgn : ∀ a b, Sgn (cmpL a b)
  | [], [] => .inr (.inl rfl)
  | [], _ :: _ => .inl rfl
  | _ :: _, [] => .inr (.inr rfl)
  | x :: xs, y :: ys => by
    unfold cmpL
    split
    · exact .inl rfl
    · split
      · exact .inr (.inr rfl)
      · exact cmpL_sgn xs ys
theorem u8_lt (x y : UInt8) : x < y ↔ x.toNat < y.toNat := UInt8.lt_iff_toNat_lt
theorem u8_eq {x y : UInt8} (h : ¬ x < y) (h' : ¬ y < x) : x = y := UInt8.toNat_inj.1 (by rw [u8_lt] at h h'; omega)
theorem cmpL_cons (x : UInt8) (xs : List UInt8) (y : UInt8) (ys : List UInt8) : cmpL (x :: xs) (y :: ys) = lex (cmpI x.toNat y.toNat) (cmpL xs ys) := by
  rw [cmpL]
  unfold lex cmpI
  by_cases h : x < y
  · have h1 := (u8_lt x y).1 h
    have h2 : (x.toNat : Int) < (y.toNat : Int) := by omega
    rw [if_pos h, if_pos h2]; rfl
  · have h1 : ¬ (x.toNat : Int) < (y.toNat : Int) := by rw [u8_lt] at h; omega
    rw [if_neg h, if_neg h1]
    by_cases h' : y < x
    · have h2 := (u8_lt y x).1 h'
      have h3 : (y.toNat : Int) < (x.toNat : Int) := by omega
      rw [if_pos h', if_pos h3]; rfl
    · have h3 : ¬ (y.toNat : Int) < (x.toNat : Int) := by rw [u8_lt] at h'; omega
      rw [if_neg h', if_neg h3]; rfl
theorem cmpL_neg : ∀ a b, cmpL b a = -(cmpL a b)
  | [], [] => rfl
  | [], _ :: _ => rfl
  | _ :: _, [] => rfl
  | x :: xs, y :: ys => by rw [cmpL_cons, cmpL_cons]; exact lex_neg (cmpI_neg _ _) (cmpL_neg xs ys)
theorem cmpL_zero : ∀ a b, cmpL a b = 0 ↔ a = b
  | [], [] => by simp [cmpL]
  | [], _ :: _ => by simp [cmpL]
  | _ :: _, [] => by simp [cmpL]
  | x :: xs, y :: ys => by
    rw [cmpL_cons, lex_zero, cmpI_zero, cmpL_zero xs ys, List.cons.injEq, ← UInt8.toNat_inj, Int.ofNat_inj]
theorem cmpL_fit : ∀ a b c, Fit (cmpL a b) (cmpL b c) (cmpL a c)
  | [], [], [] => by simp [Fit, cmpL]
  | [], [], _ :: _ => by simp [Fit, cmpL]
  | [], _ :: _, [] => by simp [Fit, cmpL]
  | [], y :: ys, z :: zs => by show Fit (-1) _ (-1); unfold Fit; omega
  | _ :: _, [], [] => by simp [Fit, cmpL]
  | x :: xs, [], z :: zs => by show Fit 1 (-1) _; unfold Fit; omega
  | x :: xs, y :: ys, [] => by show Fit _ 1 1; unfold Fit; omega
  | x :: xs, y :: ys, z :: zs => by rw [cmpL_cons, cmpL_cons, cmpL_cons]; exact lex_fit (cmpI_fit _ _ _) (cmpL_fit xs ys zs)
theorem headC_sgn (p : Pay) (n : Nat) (p' : Pay) (n' : Nat) : Sgn (headC p n p' n') := lex_sgn (cmpI_sgn _ _) (lex_sgn (cmpI_sgn _ _) (lex_sgn (cmpI_sgn _ _) (cmpL_sgn _ _)))
theorem headC_neg (p : Pay) (n : Nat) (p' : Pay) (n' : Nat) : headC p' n' p n = -(headC p n p' n') := lex_neg (cmpI_neg _ _) (lex_neg (cmpI_neg _ _) (lex_neg (cmpI_neg _ _) (cmpL_neg _ _)))
theorem headC_fit (p : Pay) (n : Nat) (p' : Pay) (n' : Nat) (p'' : Pay) (n'' : Nat) : Fit (headC p n p' n') (headC p' n' p'' n'') (headC p n p'' n'') := lex_fit (cmpI_fit _ _ _) (lex_fit (cmpI_fit _ _ _) (lex_fit (cmpI_fit _ _ _) (cmpL_fit _ _ _)))
theorem headC_zero {p : Pay} {n : Nat} {p' : Pay} {n' : Nat} : headC p n p' n' = 0 ↔ p = p' ∧ n = n' := by
  obtain ⟨a, b, c⟩ := p
  obtain ⟨a', b', c'⟩ := p'
  unfold headC cmpS
  rw [lex_zero, lex_zero, lex_zero, cmpI_zero, cmpI_zero, cmpI_zero, cmpL_zero]
  simp only [Prod.mk.injEq]
  constructor
  · rintro ⟨h1, h2, h3, h4⟩
    exact ⟨⟨h1, h2, ByteArray.ext (Array.toList_inj.1 h4)⟩, by omega⟩
  · rintro ⟨⟨rfl, rfl, rfl⟩, rfl⟩
    exact ⟨rfl, rfl, rfl, rfl⟩
theorem cmpF_sgn : ∀ F G, Sgn (cmpF F G)
  | .nil, .nil => .inr (.inl rfl)
  | .nil, .node _ _ _ => .inl rfl
  | .node _ _ _, .nil => .inr (.inr rfl)
  | .node p l r, .node p' l' r' => lex_sgn (lex_sgn (headC_sgn _ _ _ _) (cmpF_sgn l l')) (cmpF_sgn r r')
theorem cmpF_neg : ∀ F G, cmpF G F = -(cmpF F G)
  | .nil, .nil => rfl
  | .nil, .node _ _ _ => rfl
  | .node _ _ _, .nil => rfl
  | .node p l r, .node p' l' r' => lex_neg (lex_neg (headC_neg _ _ _ _) (cmpF_neg l l')) (cmpF_neg r r')
theorem cmpF_fit : ∀ F G H, Fit (cmpF F G) (cmpF G H) (cmpF F H)
  | .nil, .nil, .nil => by simp [Fit, cmpF]
  | .nil, .nil, .node _ _ _ => by simp [Fit, cmpF]
  | .nil, .node _ _ _, .nil => by simp [Fit, cmpF]
  | .nil, .node _ _ _, .node _ _ _ => by show Fit (-1) _ (-1); unfold Fit; omega
  | .node _ _ _, .nil, .nil => by simp [Fit, cmpF]
  | .node p l r, .nil, .node p' l' r' => by show Fit 1 (-1) _; unfold Fit; omega
  | .node _ _ _, .node _ _ _, .nil => by show Fit _ 1 1; unfold Fit; omega
  | .node p l r, .node p' l' r', .node p'' l'' r'' => lex_fit (lex_fit (headC_fit _ _ _ _ _ _) (cmpF_fit l l' l'')) (cmpF_fit r r' r'')
theorem cmpF_zero : ∀ F G, cmpF F G = 0 ↔ F = G
  | .nil, .nil => by simp [cmpF]
  | .nil, .node _ _ _ => by simp [cmpF]
  | .node _ _ _, .nil => by simp [cmpF]
  | .node p l r, .node p' l' r' => by
    rw [cmpF_cons, lex_zero, cmpT, lex_zero, headC_zero, cmpF_zero l l', cmpF_zero r r', Fo.node.injEq]
    constructor
    · rintro ⟨⟨⟨h1, _⟩, h2⟩, h3⟩; exact ⟨h1, h2, h3⟩
    · rintro ⟨rfl, rfl, rfl⟩; exact ⟨⟨⟨rfl, rfl⟩, rfl⟩, rfl⟩
theorem cmpT_sgn (p : Pay) (l : Fo) (p' : Pay) (l' : Fo) : Sgn (cmpT p l p' l') := lex_sgn (headC_sgn _ _ _ _) (cmpF_sgn _ _)
theorem cmpT_neg (p : Pay) (l : Fo) (p' : Pay) (l' : Fo) : cmpT p' l' p l = -(cmpT p l p' l') := lex_neg (headC_neg _ _ _ _) (cmpF_neg _ _)
theorem cmpT_fit (p : Pay) (l : Fo) (p' : Pay) (l' : Fo) (p'' : Pay) (l'' : Fo) : Fit (cmpT p l p' l') (cmpT p' l' p'' l'') (cmpT p l p'' l'') := lex_fit (headC_fit _ _ _ _ _ _) (cmpF_fit _ _ _)
theorem cmpT_zero {p : Pay} {l : Fo} {p' : Pay} {l' : Fo} : cmpT p l p' l' = 0 ↔ p = p' ∧ l = l' := by
  unfold cmpT
  rw [lex_zero, headC_zero, cmpF_zero]
  constructor
  · rintro ⟨⟨h1, _⟩, h2⟩; exact ⟨h1, h2⟩
  · rintro ⟨rfl, rfl⟩; exact ⟨⟨rfl, rfl⟩, rfl⟩

/-! ### terms as pairs, rows as lists -/
abbrev Tn := Pay × Fo
def toL : Fo → List Tn
  | .nil => []
  | .node p l r => (p, l) :: toL r
def ofL : List Tn → Fo
  | [] => .nil
  | t :: r => .node t.1 t.2 (ofL r)
theorem toL_ofL : ∀ L, toL (ofL L) = L
  | [] => rfl
  | t :: r => by show (t.1, t.2) :: _ = _; rw [toL_ofL r]
theorem ofL_toL : ∀ F, ofL (toL F) = F
  | .nil => rfl
  | .node p l r => by show Fo.node p l _ = _; rw [ofL_toL r]
theorem len_toL : ∀ F, (toL F).length = len F
  | .nil => rfl
  | .node p l r => by show (toL r).length + 1 = _; rw [len_toL r]; rfl
theorem toL_inj {F G : Fo} (h : toL F = toL G) : F = G := by rw [← ofL_toL F, h, ofL_toL]
theorem toL_at {F : Fo} : ∀ {k : Nat} {p : Pay} {l r : Fo}, dropF F k = .node p l r → (toL F)[k]? = some (p, l) := by
  induction F with
  | nil => intro k p l r h; rw [drop_nil] at h; cases h
  | node p' l' r' _ ih =>
    intro k p l r h
    cases k with
    | zero => cases h; rfl
    | succ k => exact ih h
theorem toL_drop (F : Fo) (k : Nat) : toL (dropF F k) = (toL F).drop k := by
  induction F generalizing k with
  | nil => rw [drop_nil]; simp [toL]
  | node p l r _ ih =>
    cases k with
    | zero => rfl
    | succ k => exact ih k
theorem toL_app (F G : Fo) : toL (app F G) = toL F ++ toL G := by
  induction F with
  | nil => rfl
  | node p l r _ ih => simp only [app, toL, ih, List.cons_append]
def cmpP (s t : Tn) : Int := cmpT s.1 s.2 t.1 t.2
theorem cmpP_sgn (s t : Tn) : Sgn (cmpP s t) := cmpT_sgn _ _ _ _
theorem cmpP_neg (s t : Tn) : cmpP t s = -(cmpP s t) := cmpT_neg _ _ _ _
theorem cmpP_fit (s t u : Tn) : Fit (cmpP s t) (cmpP t u) (cmpP s u) := cmpT_fit _ _ _ _ _ _
theorem cmpP_zero {s t : Tn} : cmpP s t = 0 ↔ s = t := by
  unfold cmpP
  rw [cmpT_zero]
  exact ⟨fun h => Prod.ext h.1 h.2, fun h => by rw [h]; exact ⟨rfl, rfl⟩⟩

/-! ### sorted by a key, equal keys in the order of their numbers -/
/-- The part of a term by which it is sorted: the whole, or its first argument. -/
def part (pairs : Bool) (t : Tn) : Tn := if pairs then (match t.2 with | .node p l _ => (p, l) | .nil => t) else t
def cmpK (pairs : Bool) (s t : Tn) : Int := cmpP (part pairs s) (part pairs t)
theorem cmpK_neg (b : Bool) (s t : Tn) : cmpK b t s = -(cmpK b s t) := cmpP_neg _ _
theorem cmpK_fit (b : Bool) (s t u : Tn) : Fit (cmpK b s t) (cmpK b t u) (cmpK b s u) := cmpP_fit _ _ _
/-- Before: by the key, equal ones by their numbers. -/
def Bef (b : Bool) (x y : Tn × Nat) : Prop := cmpK b x.1 y.1 < 0 ∨ (cmpK b x.1 y.1 = 0 ∧ x.2 < y.2)
theorem Bef.trans {b : Bool} {x y z : Tn × Nat} (h : Bef b x y) (h' : Bef b y z) : Bef b x z := by
  obtain ⟨f1, f2, f3, _⟩ := cmpK_fit b x.1 y.1 z.1
  unfold Bef at *
  omega
theorem Bef.irrefl {b : Bool} {x : Tn × Nat} : ¬ Bef b x x := by
  have := cmpK_neg b x.1 x.1
  unfold Bef
  omega
theorem Bef.asymm {b : Bool} {x y : Tn × Nat} (h : Bef b x y) (h' : Bef b y x) : False := Bef.irrefl (h.trans h')
/-- A list is a stable sort of another. -/
def IsSort (b : Bool) (F G : List Tn) : Prop := ∃ L : List (Tn × Nat), L.Perm F.zipIdx ∧ L.Pairwise (Bef b) ∧ G = L.map (·.1)
theorem IsSort.uniq {b : Bool} {F G G' : List Tn} (h : IsSort b F G) (h' : IsSort b F G') : G = G' := by
  obtain ⟨L, p, s, rfl⟩ := h
  obtain ⟨L', p', s', rfl⟩ := h'
  rw [List.Perm.eq_of_pairwise (le := Bef b) (fun x y _ _ h1 h2 => (h1.asymm h2).elim) s s' (p.trans p'.symm)]
theorem IsSort.perm {b : Bool} {F G : List Tn} (h : IsSort b F G) : G.Perm F := by
  obtain ⟨L, p, s, rfl⟩ := h
  have := p.map (·.1)
  rwa [List.zipIdx_map_fst] at this
/-- Nondecreasing. -/
theorem IsSort.sorted {b : Bool} {F G : List Tn} (h : IsSort b F G) : G.Pairwise (fun s t => cmpK b s t ≤ 0) := by
  obtain ⟨L, p, s, rfl⟩ := h
  rw [List.pairwise_map]
  exact s.imp fun h => by unfold Bef at h; omega
end Tm
end Go.Proofs.YtcjakmafojbhlaaDoor
namespace Go.Proofs.YtcjakmafojbhlaaDoor
set_option linter.unusedVariables false
set_option linter.unusedSimpArgs false
open Go.RowKit

/-- A world that has all the blocks of w. -/
structure Bw (w : World) where
  to : World
  ok : Below w.heap.size w to
instance (w : World) : Inhabited (Bw w) := ⟨⟨w, Below.refl _ _⟩⟩
theorem wp_region_bw {P : Program} {id : Nat} {Q : Exit → Act → World → Prop} {a : Act} {w : World} {l : List Oper} (hm : P.follows .mixedOrders = true) (hB : Region.lexB .any l.toArray = true)
    (h : wpQuiet P l.toArray (fun w' => ∃ p : Bw w, w' = p.to) (fun a' => ∀ w', (∃ p : Bw w, w' = p.to) → Q .normal a' w') l a) : (Code.region id l.toArray true).wp P Q a w :=
  wp_region_quiet (C := fun w' => ∃ p : Bw w, w' = p.to) hm hB ⟨⟨{ w with drawn := w.drawn + 1 }, rfl, rfl, rfl, Nat.le_refl _, fun _ _ => rfl⟩, rfl⟩ (by simpa using h)
theorem cell_bw {w : World} {a : Addr} {v : Value} (hb : a.block < w.heap.size) (h : w.cell? a = some v) (p : Bw w) : p.to.cell? a = some v := by rw [cell_of_block (p.ok.block _ hb)]; exact h
theorem calls_bw {P : Program} {f : FuncId} {args : Array Value} {w : World} {p : Bw w} {v : Value} (h : Calls P f args p.to fun e w' => e = .returned v ∧ Below p.to.heap.size p.to w') :
    Calls P f args p.to fun e w'' => e = .returned v ∧ ∃ q : Bw w, w'' = q.to :=
  h.mono fun _ w' ⟨he, hb⟩ => ⟨he, ⟨w', p.ok.trans (hb.mono p.ok.size)⟩, rfl⟩
end Go.Proofs.YtcjakmafojbhlaaDoor
namespace Go.Proofs.YtcjakmafojbhlaaDoor
set_option linter.unusedVariables false
set_option linter.unusedSimpArgs false
open Go.RowKit

namespace Tm
theorem cmpL_lt : ∀ a b : List UInt8, a < b ↔ cmpL a b = -1
  | [], [] => by simp [cmpL]
  | [], _ :: _ => by simp [cmpL]
  | _ :: _, [] => by simp [cmpL]
  | x :: xs, y :: ys => by
    rw [List.cons_lt_cons_iff, cmpL, cmpL_lt xs ys]
    by_cases h : x < y
    · simp [h]
    · by_cases h' : y < x
      · have : x ≠ y := by intro e; subst e; exact h h'
        simp [h, h', this]
      · have := u8_eq h h'
        subst this
        simp [h]
theorem bytesLess_cmp (s t : ByteArray) : Op.bytesLess s.toList t.toList = decide (cmpS s t = -1) := by
  rw [Go.Proofs.bytesLess_eq, Lib.toList_data, Lib.toList_data, decide_eq_decide, cmpL_lt]
  exact Iff.rfl
theorem beq_cmp (s t : ByteArray) : (s.toList == t.toList) = decide (cmpS s t = 0) := by
  rw [Bool.eq_iff_iff, beq_iff_eq, decide_eq_true_eq, Lib.toList_data, Lib.toList_data]
  exact (cmpL_zero _ _).symm
theorem cmpS_neg (s t : ByteArray) : cmpS t s = -(cmpS s t) := cmpL_neg _ _
theorem cmpS_sgn (s t : ByteArray) : Sgn (cmpS s t) := cmpL_sgn _ _
end Tm

theorem nanInt (a : Int) (w : World) : Calls Tryd.prog 74 #[.int .i64 a] w fun e w' => e = .returned (.bool false) ∧ w = w' := by
  go_enter Tryd.func74, Tryd.ntmps74
  go_wp2_with fail
  go_ret
  exact ⟨by simp, rfl⟩
theorem nanInt64 (a : Int) (w : World) : Calls Tryd.prog 75 #[.int .i64 a] w fun e w' => e = .returned (.bool false) ∧ w = w' := by
  go_enter Tryd.func75, Tryd.ntmps75
  go_wp2_with fail
  go_ret
  exact ⟨by simp, rfl⟩
theorem nanString (s : ByteArray) (w : World) : Calls Tryd.prog 76 #[.string s] w fun e w' => e = .returned (.bool false) ∧ w = w' := by
  go_enter Tryd.func76, Tryd.ntmps76
  go_wp2_with fail
  go_ret
  exact ⟨by simp, rfl⟩
theorem compareInt (a b : Int) (w : World) : Calls Tryd.prog 59 #[.int .i64 a, .int .i64 b] w fun e w' => e = .returned (.int .i64 (Tm.cmpI a b)) ∧ w = w' := by
  unfold Tm.cmpI
  by_cases h : a < b
  · rw [if_pos h]
    go_enter Tryd.func59, Tryd.ntmps59
    go_wp2_with (refine (nanInt _ _).mono ?_; rintro e w' ⟨rfl, rfl⟩)
    go_ret
    exact ⟨rfl, rfl⟩
  · rw [if_neg h]
    by_cases h' : b < a
    · rw [if_pos h']
      go_enter Tryd.func59, Tryd.ntmps59
      go_wp2_with (refine (nanInt _ _).mono ?_; rintro e w' ⟨rfl, rfl⟩)
      go_ret
      exact ⟨rfl, rfl⟩
    · rw [if_neg h']
      go_enter Tryd.func59, Tryd.ntmps59
      go_wp2_with (refine (nanInt _ _).mono ?_; rintro e w' ⟨rfl, rfl⟩)
      go_ret
      exact ⟨rfl, rfl⟩
theorem compareInt64 (a b : Int) (w : World) : Calls Tryd.prog 60 #[.int .i64 a, .int .i64 b] w fun e w' => e = .returned (.int .i64 (Tm.cmpI a b)) ∧ w = w' := by
  unfold Tm.cmpI
  by_cases h : a < b
  · rw [if_pos h]
    go_enter Tryd.func60, Tryd.ntmps60
    go_wp2_with (refine (nanInt64 _ _).mono ?_; rintro e w' ⟨rfl, rfl⟩)
    go_ret
    exact ⟨rfl, rfl⟩
  · rw [if_neg h]
    by_cases h' : b < a
    · rw [if_pos h']
      go_enter Tryd.func60, Tryd.ntmps60
      go_wp2_with (refine (nanInt64 _ _).mono ?_; rintro e w' ⟨rfl, rfl⟩)
      go_ret
      exact ⟨rfl, rfl⟩
    · rw [if_neg h']
      go_enter Tryd.func60, Tryd.ntmps60
      go_wp2_with (refine (nanInt64 _ _).mono ?_; rintro e w' ⟨rfl, rfl⟩)
      go_ret
      exact ⟨rfl, rfl⟩
theorem compareString (s t : ByteArray) (w : World) : Calls Tryd.prog 61 #[.string s, .string t] w fun e w' => e = .returned (.int .i64 (Tm.cmpS s t)) ∧ w = w' := by
  have hs := Tm.cmpS_sgn s t
  have hn := Tm.cmpS_neg s t
  have h1 := Tm.bytesLess_cmp s t
  have h2 := Tm.beq_cmp s t
  obtain ⟨c, hc⟩ : ∃ c, c = Tm.cmpS s t := ⟨_, rfl⟩
  rw [← hc] at hs h1 h2 ⊢
  clear hc hn
  rcases hs with rfl | rfl | rfl
  · replace h1 : Op.bytesLess s.toList t.toList = true := h1
    clear h2
    go_enter Tryd.func61, Tryd.ntmps61
    go_wp2_with (refine (nanString _ _).mono ?_; rintro e w' ⟨rfl, rfl⟩)
    go_ret
    exact ⟨rfl, rfl⟩
  · replace h1 : Op.bytesLess s.toList t.toList = false := h1
    replace h2 : (s.toList == t.toList) = true := h2
    go_enter Tryd.func61, Tryd.ntmps61
    go_wp2_with (refine (nanString _ _).mono ?_; rintro e w' ⟨rfl, rfl⟩)
    go_ret
    exact ⟨rfl, rfl⟩
  · replace h1 : Op.bytesLess s.toList t.toList = false := h1
    replace h2 : (s.toList == t.toList) = false := h2
    go_enter Tryd.func61, Tryd.ntmps61
    go_wp2_with (refine (nanString _ _).mono ?_; rintro e w' ⟨rfl, rfl⟩)
    go_ret
    exact ⟨rfl, rfl⟩
theorem rnumber_any (a b : Int) (w : World) : Calls Tryd.prog 63 #[.int .i64 a, .int .i64 b] w fun e w' => e = .returned (.int .i64 (Tm.cmpI a b)) ∧ w = w' := by
  unfold Tm.cmpI
  by_cases h : a < b
  · rw [if_pos h]
    go_enter Tryd.func63, Tryd.ntmps63
    go_wp2_with fail
    go_ret
    exact ⟨rfl, rfl⟩
  · rw [if_neg h]
    by_cases h' : b < a
    · rw [if_pos h']
      go_enter Tryd.func63, Tryd.ntmps63
      go_wp2_with fail
      go_ret
      exact ⟨rfl, rfl⟩
    · rw [if_neg h']
      go_enter Tryd.func63, Tryd.ntmps63
      go_wp2_with fail
      go_ret
      exact ⟨rfl, rfl⟩
end Go.Proofs.YtcjakmafojbhlaaDoor
namespace Go.Proofs.YtcjakmafojbhlaaDoor
set_option linter.unusedVariables false
set_option linter.unusedSimpArgs false
open Go.RowKit

namespace Tm
theorem drop_byte {s : ByteArray} {k : Nat} (h : k < s.size) : s.data.toList.drop k = s[k] :: s.data.toList.drop (k + 1) := by
  have h' : k < s.data.toList.length := by simpa using h
  rw [List.drop_eq_getElem_cons h']
  rfl
theorem drop_all {s : ByteArray} {k : Nat} (h : s.size ≤ k) : s.data.toList.drop k = [] := List.drop_eq_nil_of_le (by simpa using h)
/-- The first number that is not 0. -/
def orL : List Int → Int
  | [] => 0
  | x :: xs => lex x (orL xs)
end Tm

set_option maxHeartbeats 1000000 in
theorem rnames_any (s t : ByteArray) (w : World) (hs : s.size ≤ 9223372036854775807) (ht : t.size ≤ 9223372036854775807) : Calls Tryd.prog 64 #[.string s, .string t] w fun e w' => e = .returned (.int .i64 (Tm.cmpS s t)) ∧ Below w.heap.size w w' := by
  obtain ⟨c, hc⟩ : ∃ c, c = Tm.cmpS s t := ⟨_, rfl⟩
  rw [← hc]
  have HC := Lib.hid hc
  clear hc
  go_enter Tryd.func64, Tryd.ntmps64
  go_wp2_with fail
  go_loopw [5] (fun u wr => ∃ k : Nat, k ≤ s.size ∧ k ≤ t.size ∧ u = .int .i64 k ∧ c = Tm.cmpL (s.data.toList.drop k) (t.data.toList.drop k) ∧ Below w.heap.size w wr) (fun u _ => s.size - (Lib.intOf u).toNat)
  case atStart => exact ⟨0, Nat.zero_le _, Nat.zero_le _, rfl, HC.out, Below.refl _ _⟩
  case round =>
    obtain ⟨k, hk, hk', rfl, hcl, hbl⟩ := hrel
    have HB := Lib.hid hbl
    have HL := Lib.hid hcl
    clear hcl hbl
    by_cases h1 : k < s.size
    · by_cases h2 : k < t.size
      · have hd := HL.out
        rw [Tm.drop_byte h1, Tm.drop_byte h2, Tm.cmpL_cons] at hd
        by_cases hlt : (s[k].toNat : Int) < (t[k].toNat : Int)
        · have hr : c = -1 := by rw [hd]; unfold Tm.cmpI; rw [if_pos hlt]; rfl
          have HR := Lib.hid hr
          clear hd hr
          go_wp2_with fail
          go_quiet (fail)
          go_wp2_with fail
          go_ret
          exact ⟨by rw [HR.out]; rfl, below_drewN HB.out _⟩
        · by_cases hgt : (t[k].toNat : Int) < (s[k].toNat : Int)
          · have hr : c = 1 := by rw [hd]; unfold Tm.cmpI; rw [if_neg hlt, if_pos hgt]; rfl
            have HR := Lib.hid hr
            clear hd hr
            go_wp2_with fail
            go_quiet (fail)
            go_wp2_with fail
            go_quiet (fail)
            go_wp2_with fail
            go_ret
            exact ⟨by rw [HR.out]; rfl, below_drewN (below_drewN HB.out _) _⟩
          · have hr : c = Tm.cmpL (s.data.toList.drop (k + 1)) (t.data.toList.drop (k + 1)) := by rw [hd]; unfold Tm.cmpI; rw [if_neg hlt, if_neg hgt]; rfl
            have HR := Lib.hid hr
            clear hd hr
            go_wp2_with fail
            go_quiet (fail)
            go_wp2_with fail
            go_quiet (fail)
            go_wp2_with fail
            exact ⟨⟨k + 1, by omega, by omega, by go_num, HR.out, below_drewN HB.out _⟩, by simp [Lib.intOf]; omega⟩
      · have hr : c = Tm.cmpI s.size t.size := by
          rw [HL.out, Tm.drop_byte h1, Tm.drop_all (s := t) (by omega)]
          unfold Tm.cmpI
          rw [if_neg (by omega), if_pos (by omega)]; rfl
        have HR := Lib.hid hr
        clear hr
        go_wp2_with fail
        refine (rnumber_any _ _ _).mono ?_
        rintro e w1 ⟨rfl, rfl⟩
        go_wp2_with fail
        go_ret
        exact ⟨by rw [HR.out]; rfl, HB.out⟩
    · have hr : c = Tm.cmpI s.size t.size := by
        rw [HL.out, Tm.drop_all (s := s) (by omega)]
        unfold Tm.cmpI
        by_cases h2 : k < t.size
        · rw [Tm.drop_byte h2, if_pos (by omega)]; rfl
        · rw [Tm.drop_all (s := t) (by omega), if_neg (by omega), if_neg (by omega)]; rfl
      have HR := Lib.hid hr
      clear hr
      go_wp2_with fail
      refine (rnumber_any _ _ _).mono ?_
      rintro e w1 ⟨rfl, rfl⟩
      go_wp2_with fail
      go_ret
      exact ⟨by rw [HR.out]; rfl, HB.out⟩

theorem or_any (A : Option Addr) (cp : Nat) (L : List Int) (n : Nat) (w : World) (h : ListIn w A n L) (hn : n ≤ 1000) : Calls Tryd.prog 58 #[.slice A n cp] w fun e w' => e = .returned (.int .i64 (Tm.orL L)) ∧ w = w' := by
  obtain ⟨c, hc⟩ : ∃ c, c = Tm.orL L := ⟨_, rfl⟩
  rw [← hc]
  have HC := Lib.hid hc
  have H := Lib.hid h
  clear hc h
  go_enter Tryd.func58, Tryd.ntmps58
  go_wp2_with fail
  go_loop [8] (fun u => ∃ k : Nat, k ≤ n ∧ u = .int .i64 k ∧ c = Tm.orL (L.drop k)) (fun u => n - (Lib.intOf u).toNat)
  case atStart => exact ⟨0, Nat.zero_le _, rfl, HC.out⟩
  case round =>
    obtain ⟨k, hk, rfl, hcl⟩ := hrel
    have HL := Lib.hid hcl
    clear hcl
    by_cases hlt : k < n
    · obtain ⟨b, o, rfl, hb, hr⟩ := H.out.row (by omega)
      have hk2 : k < L.length := by rw [H.out.len]; exact hlt
      have y0 := hr k L[k] (List.getElem?_eq_getElem hk2)
      have hd := HL.out
      rw [List.drop_eq_getElem_cons hk2] at hd
      obtain ⟨z, hz⟩ : ∃ z, z = L[k] := ⟨_, rfl⟩
      rw [← hz] at y0 hd
      clear hr hz
      by_cases h0 : z = 0
      · subst h0
        have HD := Lib.hid hd
        clear hd
        go_wp2_with fail
        go_round
        case rel => exact ⟨k + 1, by omega, by go_num, HD.out⟩
        case measure => simp [Lib.intOf]; omega
      · have hzb : (z == 0) = false := by simpa using h0
        have hcz : c = z := by rw [hd]; unfold Tm.orL Tm.lex; rw [if_neg h0]
        clear hd h0
        subst hcz
        go_wp2_with fail
        go_ret
        exact ⟨rfl, rfl⟩
    · have hc0 : c = 0 := by rw [HL.out, List.drop_eq_nil_of_le (by rw [H.out.len]; omega)]; rfl
      subst hc0
      go_wp2_with fail
      go_ret
      exact ⟨rfl, rfl⟩
end Go.Proofs.YtcjakmafojbhlaaDoor
namespace Go.Proofs.YtcjakmafojbhlaaDoor
set_option linter.unusedVariables false
set_option linter.unusedSimpArgs false
open Go.RowKit

section
variable {ops : Array Oper} {Q : Exit → Act → World → Prop} {E : Nat → Kd} {D : Nat → Nat} {base : Nat → Option Kd} {N : Nat}

theorem step_field0 {i : Nat} {x : Operand} {p : Pay} {l : Fo} (hop : (ops[i]?).map (·.op) = some (.fieldAddr 24 x 0)) (hx : Opd ops E D base N i x (.ptrT p l)) (hE : E i = .ptrI p.1) : Step Tryd.prog ops Q E D base N i :=
  step_still hop hE fun a w h dst ty' pos after guard => by
    obtain ⟨b, o, A, c, e, hb, hn⟩ := hx a w h
    refine ⟨.pointer (some ⟨b, o, none⟩), ?_, _, rfl, hb, hn.kind⟩
    unfold execOp
    simp only [e]
    go_simp
theorem step_field1 {i : Nat} {x : Operand} {p : Pay} {l : Fo} (hop : (ops[i]?).map (·.op) = some (.fieldAddr 24 x 1)) (hx : Opd ops E D base N i x (.ptrT p l)) (hE : E i = .ptrI p.2.1) : Step Tryd.prog ops Q E D base N i :=
  step_still hop hE fun a w h dst ty' pos after guard => by
    obtain ⟨b, o, A, c, e, hb, hn⟩ := hx a w h
    refine ⟨.pointer (some ⟨b, o + 1, none⟩), ?_, _, rfl, hb, hn.num⟩
    unfold execOp
    simp only [e]
    go_simp
theorem step_field2 {i : Nat} {x : Operand} {p : Pay} {l : Fo} (hop : (ops[i]?).map (·.op) = some (.fieldAddr 24 x 2)) (hx : Opd ops E D base N i x (.ptrT p l)) (hE : E i = .ptrS p.2.2) : Step Tryd.prog ops Q E D base N i :=
  step_still hop hE fun a w h dst ty' pos after guard => by
    obtain ⟨b, o, A, c, e, hb, hn⟩ := hx a w h
    refine ⟨.pointer (some ⟨b, o + 2, none⟩), ?_, _, rfl, hb, hn.name⟩
    unfold execOp
    simp only [e]
    go_simp
theorem step_field3 {i : Nat} {x : Operand} {p : Pay} {l : Fo} (hop : (ops[i]?).map (·.op) = some (.fieldAddr 24 x 3)) (hx : Opd ops E D base N i x (.ptrT p l)) (hE : E i = .ptrR l) : Step Tryd.prog ops Q E D base N i :=
  step_still hop hE fun a w h dst ty' pos after guard => by
    obtain ⟨b, o, A, c, e, hb, hn⟩ := hx a w h
    refine ⟨.pointer (some ⟨b, o + 3, none⟩), ?_, _, A, c, rfl, hb, hn.args, hn.inn⟩
    unfold execOp
    simp only [e]
    go_simp
theorem step_load_int3 {i : Nat} {x : Operand} {n : Int} (hop : (ops[i]?).map (·.op) = some (.load 3 x)) (hx : Opd ops E D base N i x (.ptrI n)) (hE : E i = .val (.int .i64 n)) : Step Tryd.prog ops Q E D base N i :=
  step_still hop hE fun a w h dst ty' pos after guard => by
    obtain ⟨ad, e, hb, hc⟩ := hx a w h
    refine ⟨.int .i64 n, ?_, rfl⟩
    unfold execOp
    simp only [e]
    go_simp
theorem step_load_string {i : Nat} {x : Operand} {s : ByteArray} (hop : (ops[i]?).map (·.op) = some (.load 9 x)) (hx : Opd ops E D base N i x (.ptrS s)) (hE : E i = .val (.string s)) : Step Tryd.prog ops Q E D base N i :=
  step_still hop hE fun a w h dst ty' pos after guard => by
    obtain ⟨ad, e, hb, hc⟩ := hx a w h
    refine ⟨.string s, ?_, rfl⟩
    unfold execOp
    simp only [e]
    go_simp
theorem step_load_row {i : Nat} {x : Operand} {F : Fo} (hop : (ops[i]?).map (·.op) = some (.load 22 x)) (hx : Opd ops E D base N i x (.ptrR F)) (hE : E i = .row F) : Step Tryd.prog ops Q E D base N i :=
  step_still hop hE fun a w h dst ty' pos after guard => by
    obtain ⟨ad, A, c, e, hb, hc, hA⟩ := hx a w h
    refine ⟨.slice A (Tm.len F) c, ?_, A, c, rfl, hA⟩
    generalize Tm.len F = n at hc
    unfold execOp
    simp only [e]
    go_simp
/-- The place of a kind. -/
theorem step_place {i : Nat} {x : Operand} {n : Int} (tt : Nat) (hn0 : 0 ≤ n) (hn : n ≤ 3) (hop : (ops[i]?).map (·.op) = some (.indexAddr 55 (.global 0) x)) (hx : Opd ops E D base N i x (.val (.int .i64 n))) (ht : Opd ops E D base N i (.tmp tt) .tabs) (hE : E i = .ptrI n) : Step Tryd.prog ops Q E D base N i :=
  step_still hop hE fun a w h dst ty' pos after guard => by
    have e : a.eval x = .int .i64 n := hx a w h
    have hT : Tabs w := ht a w h
    have hc : w.cell? ⟨0, n.toNat, none⟩ = some (.int .i64 n) := by
      have h4 : n = 0 ∨ n = 1 ∨ n = 2 ∨ n = 3 := by omega
      rcases h4 with rfl | rfl | rfl | rfl
      · exact hT.cell lPlaces 0 (by decide)
      · exact hT.cell lPlaces 1 (by decide)
      · exact hT.cell lPlaces 2 (by decide)
      · exact hT.cell lPlaces 3 (by decide)
    refine ⟨.pointer (some ⟨0, n.toNat, none⟩), ?_, _, rfl, World.block_lt_of_cell? w _ hc, hc⟩
    have e0 : a.eval (.global 0) = .pointer (some ⟨0, 0, none⟩) := rfl
    unfold execOp
    simp only [e, e0]
    go_simp
    intro h4
    omega
/-- Four numbers. -/
theorem step_four {i : Nat} {x y z u : Operand} {m n p q : Int} (hop : (ops[i]?).map (·.op) = some (.buildSlice 64 4 #[(0, x), (1, y), (2, z), (3, u)])) (hx : Opd ops E D base N i x (.val (.int .i64 m))) (hy : Opd ops E D base N i y (.val (.int .i64 n))) (hz : Opd ops E D base N i z (.val (.int .i64 p))) (hu : Opd ops E D base N i u (.val (.int .i64 q))) (hE : E i = .ints [m, n, p, q]) : Step Tryd.prog ops Q E D base N i := by
  intro o ho a w hc K hK
  have hxo := op_of ho hop
  obtain ⟨dst, op, ty, pos, after, guard⟩ := o
  have hx' : op = _ := hxo
  subst hx'
  have ex : a.eval x = .int .i64 m := hx a w hc
  have ey : a.eval y = .int .i64 n := hy a w hc
  have ez : a.eval z = .int .i64 p := hz a w hc
  have eu : a.eval u = .int .i64 q := hu a w hc
  have hrun : (execOp a.eval ⟨dst, .buildSlice 64 4 #[(0, x), (1, y), (2, z), (3, u)], ty, pos, after, guard⟩).run Tryd.prog w = .ok (.value (.slice (some ⟨w.heap.size, 0, none⟩) 4 4)) (w.alloc (.cells #[.int .i64 m, .int .i64 n, .int .i64 p, .int .i64 q] 3)) := by
    unfold execOp
    simp only [List.map_toArray, List.map_cons, List.map_nil, ex, ey, ez, eu]
    go_simp
  unfold Oper.wp
  rw [hrun]
  refine hK _ _ ?_ ((Below.refl _ _).alloc (Nat.le_refl _) _)
  rw [hE]
  refine ⟨_, 4, rfl, rfl, fun _ => ⟨_, _, rfl, by rw [World.size_alloc]; omega, fun j v hj => ?_⟩⟩
  rw [cell_of_row _ _ _ _ _ _ (alloc_new w _), Nat.zero_add]
  match j, hj with
  | 0, hj => cases hj; rfl
  | 1, hj => cases hj; rfl
  | 2, hj => cases hj; rfl
  | 3, hj => cases hj; rfl
theorem step_ge_int {i : Nat} {x y : Operand} {m n : Int} {b : Bool} (hop : (ops[i]?).map (·.op) = some (.binOp .geq 3 x y 3)) (hx : Opd ops E D base N i x (.val (.int .i64 m))) (hy : Opd ops E D base N i y (.val (.int .i64 n))) (hb : (decide (n ≤ m)) = b) (hE : E i = .val (.bool b)) : Step Tryd.prog ops Q E D base N i :=
  step_still hop hE fun a w h dst ty' pos after guard => by
    have e : a.eval x = .int .i64 m := hx a w h
    have e' : a.eval y = .int .i64 n := hy a w h
    refine ⟨.bool b, ?_, rfl⟩
    rw [← hb]
    unfold execOp
    simp only [e, e']
    go_simp
theorem step_le_int {i : Nat} {x y : Operand} {m n : Int} {b : Bool} (hop : (ops[i]?).map (·.op) = some (.binOp .leq 3 x y 3)) (hx : Opd ops E D base N i x (.val (.int .i64 m))) (hy : Opd ops E D base N i y (.val (.int .i64 n))) (hb : (decide (m ≤ n)) = b) (hE : E i = .val (.bool b)) : Step Tryd.prog ops Q E D base N i :=
  step_still hop hE fun a w h dst ty' pos after guard => by
    have e : a.eval x = .int .i64 m := hx a w h
    have e' : a.eval y = .int .i64 n := hy a w h
    refine ⟨.bool b, ?_, rfl⟩
    rw [← hb]
    unfold execOp
    simp only [e, e']
    go_simp
theorem step_sub {i : Nat} {x y : Operand} {m n s : Int} (hop : (ops[i]?).map (·.op) = some (.binOp .sub 3 x y 3)) (hx : Opd ops E D base N i x (.val (.int .i64 m))) (hy : Opd ops E D base N i y (.val (.int .i64 n))) (hs : IntKind.i64.wrap (m - n) = s) (hE : E i = .val (.int .i64 s)) : Step Tryd.prog ops Q E D base N i :=
  step_still hop hE fun a w h dst ty' pos after guard => by
    have e : a.eval x = .int .i64 m := hx a w h
    have e' : a.eval y = .int .i64 n := hy a w h
    refine ⟨.int .i64 s, ?_, rfl⟩
    rw [← hs]
    unfold execOp
    simp only [e, e']
    go_simp
/-! ### calls -/
/-- A callee that gives a value and leaves the world. -/
theorem pure_R {P : Program} {f : FuncId} {args : Array Value} {w : World} {v : Value} (h : Calls P f args w fun e w' => e = .returned v ∧ w = w') {k : Kd} (hk : k.R v w) : Calls P f args w fun e w' => ∃ v, e = .returned v ∧ k.R v w' ∧ Below w.heap.size w w' :=
  h.mono fun e w' ⟨he, hw⟩ => by subst hw; exact ⟨v, he, hk, Below.refl _ _⟩
theorem below_R {P : Program} {f : FuncId} {args : Array Value} {w : World} {v : Value} (h : Calls P f args w fun e w' => e = .returned v ∧ Below w.heap.size w w') : Calls P f args w fun e w' => ∃ u, e = .returned u ∧ (Kd.val v).R u w' ∧ Below w.heap.size w w' :=
  h.mono fun e w' ⟨he, hw⟩ => ⟨v, he, rfl, hw⟩
theorem step_compareInt {i : Nat} {x y : Operand} {m n : Int} (hop : (ops[i]?).map (·.op) = some (.call { callee := .value (.func 59), args := #[x, y], argTypes := #[3, 3] })) (hx : Opd ops E D base N i x (.val (.int .i64 m))) (hy : Opd ops E D base N i y (.val (.int .i64 n))) (hE : E i = .val (.int .i64 (Tm.cmpI m n))) : Step Tryd.prog ops Q E D base N i :=
  step_call hop (fun _ _ => by kernel_rfl) fun a w h => by
    have ex : a.eval x = .int .i64 m := hx a w h
    have ey : a.eval y = .int .i64 n := hy a w h
    rw [show (#[x, y] : Array Operand).map a.eval = #[.int .i64 m, .int .i64 n] by rw [← ex, ← ey]; simp, hE]
    exact pure_R (compareInt m n w) rfl
theorem step_compareInt64 {i : Nat} {x y : Operand} {m n : Int} (hop : (ops[i]?).map (·.op) = some (.call { callee := .value (.func 60), args := #[x, y], argTypes := #[2, 2] })) (hx : Opd ops E D base N i x (.val (.int .i64 m))) (hy : Opd ops E D base N i y (.val (.int .i64 n))) (hE : E i = .val (.int .i64 (Tm.cmpI m n))) : Step Tryd.prog ops Q E D base N i :=
  step_call hop (fun _ _ => by kernel_rfl) fun a w h => by
    have ex : a.eval x = .int .i64 m := hx a w h
    have ey : a.eval y = .int .i64 n := hy a w h
    rw [show (#[x, y] : Array Operand).map a.eval = #[.int .i64 m, .int .i64 n] by rw [← ex, ← ey]; simp, hE]
    exact pure_R (compareInt64 m n w) rfl
theorem step_compareString {i : Nat} {x y : Operand} {s t : ByteArray} (hop : (ops[i]?).map (·.op) = some (.call { callee := .value (.func 61), args := #[x, y], argTypes := #[9, 9] })) (hx : Opd ops E D base N i x (.val (.string s))) (hy : Opd ops E D base N i y (.val (.string t))) (hE : E i = .val (.int .i64 (Tm.cmpS s t))) : Step Tryd.prog ops Q E D base N i :=
  step_call hop (fun _ _ => by kernel_rfl) fun a w h => by
    have ex : a.eval x = .string s := hx a w h
    have ey : a.eval y = .string t := hy a w h
    rw [show (#[x, y] : Array Operand).map a.eval = #[.string s, .string t] by rw [← ex, ← ey]; simp, hE]
    exact pure_R (compareString s t w) rfl
theorem step_or {i : Nat} {x : Operand} {L : List Int} (hL : L.length ≤ 1000) (hop : (ops[i]?).map (·.op) = some (.call { callee := .value (.func 58), args := #[x], argTypes := #[64] })) (hx : Opd ops E D base N i x (.ints L)) (hE : E i = .val (.int .i64 (Tm.orL L))) : Step Tryd.prog ops Q E D base N i :=
  step_call hop (fun _ _ => by kernel_rfl) fun a w h => by
    obtain ⟨A, c, ex, hl⟩ := hx a w h
    rw [show (#[x] : Array Operand).map a.eval = #[.slice A L.length c] by rw [← ex]; simp, hE]
    exact pure_R (or_any A c L L.length w hl hL) rfl
end
end Go.Proofs.YtcjakmafojbhlaaDoor
namespace Go.Proofs.YtcjakmafojbhlaaDoor
set_option linter.unusedVariables false
set_option linter.unusedSimpArgs false
open Go.RowKit

/-- The operations of a function's region, wherever it stands. -/
def findReg (id : Nat) : Code → Option (Array Oper)
  | .region k ops _ => if k = id then some ops else none
  | .seq a b => match findReg id a with
    | some r => some r
    | none => findReg id b
  | .cond _ a b => match findReg id a with
    | some r => some r
    | none => findReg id b
  | .block _ a => findReg id a
  | .loop a => findReg id a
  | _ => none
theorem below_succ {S : Nat → Prop} {n : Nat} (h : ∀ i, i < n → S i) (hn : S n) : ∀ i, i < n + 1 → S i := fun i hi => by
  by_cases he : i = n
  · subst he; exact hn
  · exact h i (by omega)
abbrev cmpFn (f : Nat) : Value := .func (.func f) #[] #[]
/-- Two terms of fewer than m nodes below the first are compared by f. -/
def Cmps (f m : Nat) : Prop := ∀ (p : Pay) (l : Fo) (A : Option Addr) (c : Nat) (p' : Pay) (l' : Fo) (A' : Option Addr) (c' B : Nat) (w : World), Tm.size l < m → Tm.goodB p l = true → Tm.goodB p' l' = true → ArgsB w B A (Tm.len l) l → ArgsB w B A' (Tm.len l') l' → B ≤ w.heap.size → Tabs w →
    Calls Tryd.prog f #[tv p A (Tm.len l) c, tv p' A' (Tm.len l') c'] w fun e w' => e = .returned (.int .i64 (Tm.cmpT p l p' l')) ∧ Below w.heap.size w w'
theorem enters_compare : ∀ (args : Array Value) (w : World), (callFunc 37 args).run Tryd.prog w = .ok (.enter 37 args) w := fun args w => by kernel_rfl
/-- Two rows are compared. -/
def CmpRows (F G : Fo) : Prop := ∀ (A A' : Option Addr) (c c' B : Nat) (w : World), ArgsB w B A (Tm.len F) F → ArgsB w B A' (Tm.len G) G → B ≤ w.heap.size → Tabs w →
    Calls Tryd.prog 62 #[.slice A (Tm.len F) c, .slice A' (Tm.len G) c', cmpFn 37] w fun e w' => e = .returned (.int .i64 (Tm.cmpF F G)) ∧ Below w.heap.size w w'
theorem Tm.allB_node {p : Pay} {l r : Fo} (h : Tm.allB (.node p l r) = true) : Tm.goodB p l = true ∧ Tm.allB r = true := by rw [Tm.allB_cons, Bool.and_eq_true] at h; exact h
theorem two_allocs (w : World) (o1 o2 : Obj) : Below w.heap.size w ((w.alloc o1).alloc o2) := Only.below (X := fun _ => False) (((Only.refl _ w).alloc _).alloc _) (Nat.le_refl _) (fun _ h => h.elim)

set_option maxHeartbeats 2000000 in
theorem compareFunc_up (m : Nat) (ih : Cmps 37 m) (F G : Fo) (hF : Tm.size F ≤ m) (hgF : Tm.allB F = true) (hgG : Tm.allB G = true) : CmpRows F G := by
  intro A A' c c' B w hA hA' hBw hT
  obtain ⟨n, hn⟩ : ∃ n, n = Tm.len F := ⟨_, rfl⟩
  obtain ⟨n', hn'⟩ : ∃ n', n' = Tm.len G := ⟨_, rfl⟩
  rw [← hn] at hA ⊢
  rw [← hn'] at hA' ⊢
  have hnn : n ≤ 9223372036854775807 := hA.hi
  have hnn' : n' ≤ 9223372036854775807 := hA'.hi
  have eg := enters_compare
  have IH := Lib.hid ih
  have HF := Lib.hid hF
  have HGF := Lib.hid hgF
  have HGG := Lib.hid hgG
  have HN := Lib.hid hn
  have HN' := Lib.hid hn'
  have HA := Lib.hid hA
  have HA' := Lib.hid hA'
  have HT := Lib.hid hT
  clear hn hn' hA hA' ih hF hgF hgG hT
  go_enter Tryd.func62, Tryd.ntmps62
  go_wp2_with fail
  go_loopw [13] (fun u wr => ∃ k : Nat, k ≤ n ∧ k ≤ n' ∧ u = .int .i64 k ∧ Tm.cmpF F G = Tm.cmpF (Tm.dropF F k) (Tm.dropF G k) ∧ Below w.heap.size w wr) (fun u _ => n - (Lib.intOf u).toNat)
  case atStart => exact ⟨0, Nat.zero_le _, Nat.zero_le _, rfl, by rw [Tm.drop_zero, Tm.drop_zero], Below.refl _ _⟩
  case round =>
    obtain ⟨k, hk, hk', rfl, hal, hbl⟩ := hrel
    have HB := Lib.hid hbl
    have HL := Lib.hid hal
    clear hbl hal
    by_cases hlt : k < n
    · obtain ⟨b, o, p1, l1, r1, A1, c1, rfl, hbB, hd, hnode⟩ := HA.out.at hlt
      have hbw : b < w.heap.size := Nat.lt_of_lt_of_le hbB hBw
      have y0 := (HB.out.cell (p := ⟨b, o + k * 4, none⟩) hbw).trans hnode.kind
      have y1 := (HB.out.cell (p := ⟨b, o + k * 4 + 1, none⟩) hbw).trans hnode.num
      have y2 := (HB.out.cell (p := ⟨b, o + k * 4 + 2, none⟩) hbw).trans hnode.name
      have y3 := (HB.out.cell (p := ⟨b, o + k * 4 + 3, none⟩) hbw).trans hnode.args
      have hbr : b < wr.heap.size := below_lt hbw HB.out.size
      by_cases hlt' : k < n'
      · obtain ⟨b', o', p2, l2, r2, A2, c2, rfl, hbB', hd', hnode'⟩ := HA'.out.at hlt'
        have hbw' : b' < w.heap.size := Nat.lt_of_lt_of_le hbB' hBw
        have z0 := (HB.out.cell (p := ⟨b', o' + k * 4, none⟩) hbw').trans hnode'.kind
        have z1 := (HB.out.cell (p := ⟨b', o' + k * 4 + 1, none⟩) hbw').trans hnode'.num
        have z2 := (HB.out.cell (p := ⟨b', o' + k * 4 + 2, none⟩) hbw').trans hnode'.name
        have z3 := (HB.out.cell (p := ⟨b', o' + k * 4 + 3, none⟩) hbw').trans hnode'.args
        have hbr' : b' < wr.heap.size := below_lt hbw' HB.out.size
        have HD := Lib.hid (And.intro hd hd')
        have HI := Lib.hid (hnode.inn.below HB.out hBw)
        have HI' := Lib.hid (hnode'.inn.below HB.out hBw)
        clear hd hd' hnode hnode'
        have hs1 : Tm.size l1 < m := by have e := HD.out.1; have := Tm.size_drop_le F k; rw [e] at this; simp only [Tm.size] at this; have := HF.out; omega
        have hg1 := (Tm.allB_node (by rw [← HD.out.1]; exact Tm.allB_drop HGF.out k)).1
        have hg2 := (Tm.allB_node (by rw [← HD.out.2]; exact Tm.allB_drop HGG.out k)).1
        have hs2 : Tm.cmpF F G = Tm.lex (Tm.cmpT p1 l1 p2 l2) (Tm.cmpF (Tm.dropF F (k + 1)) (Tm.dropF G (k + 1))) := by rw [HL.out, Tm.drop_succ HD.out.1, Tm.drop_succ HD.out.2, HD.out.1, HD.out.2, Tm.cmpF_cons]
        have C1 := fun (w2 : World) (h2 : ArgsB w2 B A1 (Tm.len l1) l1) (h2' : ArgsB w2 B A2 (Tm.len l2) l2) (h3 : B ≤ w2.heap.size) (h4 : Tabs w2) => IH.out p1 l1 A1 c1 p2 l2 A2 c2 B w2 hs1 hg1 hg2 h2 h2' h3 h4
        have HW := Lib.hid (two_allocs wr)
        have hwr := HB.out.size
        obtain ⟨d, hd⟩ : ∃ d, d = Tm.cmpT p1 l1 p2 l2 := ⟨_, rfl⟩
        rw [← hd] at hs2 C1
        have C := Lib.hid C1
        clear hs1 hg1 hg2 hd C1
        by_cases h0 : d = 0
        · subst h0
          have HS := Lib.hid hs2
          clear hs2
          go_wp2_with fail
          refine (C.out _ ?_ ?_ ?_ ?_).mono ?_
          · exact HI.out.below (HW.out _ _) (by omega)
          · exact HI'.out.below (HW.out _ _) (by omega)
          · simp; omega
          · exact (HT.out.below HB.out).below (HW.out _ _)
          rintro e w2 ⟨rfl, hb1⟩
          have HB1 := Lib.hid hb1
          clear hb1
          go_wp2_with fail
          exact ⟨⟨k + 1, by omega, by omega, by go_num, HS.out, (HB.out.trans ((HW.out _ _).mono HB.out.size)).trans (HB1.out.mono (by simp; omega))⟩, by simp [Lib.intOf]; omega⟩
        · have h0b : (d == 0) = false := by simpa using h0
          have hres : Tm.cmpF F G = d := by rw [hs2]; unfold Tm.lex; rw [if_neg h0]
          have HR := Lib.hid hres
          clear hres hs2 h0
          go_wp2_with fail
          refine (C.out _ ?_ ?_ ?_ ?_).mono ?_
          · exact HI.out.below (HW.out _ _) (by omega)
          · exact HI'.out.below (HW.out _ _) (by omega)
          · simp; omega
          · exact (HT.out.below HB.out).below (HW.out _ _)
          rintro e w2 ⟨rfl, hb1⟩
          have HB1 := Lib.hid hb1
          clear hb1
          go_wp2_with fail
          go_ret
          exact ⟨by rw [HR.out]; rfl, (HB.out.trans ((HW.out _ _).mono HB.out.size)).trans (HB1.out.mono (by simp; omega))⟩
      · have hres : Tm.cmpF F G = 1 := by
          have e2 : Tm.dropF G k = .nil := by rw [show k = Tm.len G by have := HN'.out; omega]; exact Tm.drop_end G
          rw [HL.out, hd, e2]; rfl
        have HR := Lib.hid hres
        clear hres hd hnode
        go_wp2_with fail
        go_ret
        exact ⟨by rw [HR.out]; rfl, HB.out.trans (((Below.refl wr.heap.size wr).alloc (Nat.le_refl _) _).mono HB.out.size)⟩
    · obtain rfl : k = n := by omega
      have e1 : Tm.dropF F k = .nil := by rw [show k = Tm.len F from HN.out]; exact Tm.drop_end F
      by_cases hlt' : k < n'
      · have hres : Tm.cmpF F G = -1 := by
          obtain ⟨p2, l2, r2, e2⟩ := Tm.drop_at (F := G) (k := k) (by rw [← HN'.out]; exact hlt')
          rw [HL.out, e1, e2]; rfl
        have HR := Lib.hid hres
        clear hres e1
        go_wp2_with fail
        go_ret
        exact ⟨by rw [HR.out]; rfl, HB.out⟩
      · have hres : Tm.cmpF F G = 0 := by
          have e2 : Tm.dropF G k = .nil := by rw [show k = Tm.len G by have := HN'.out; omega]; exact Tm.drop_end G
          rw [HL.out, e1, e2]; rfl
        have HR := Lib.hid hres
        clear hres e1
        go_wp2_with fail
        go_ret
        exact ⟨by rw [HR.out]; rfl, HB.out⟩

section
variable {ops : Array Oper} {Q : Exit → Act → World → Prop} {E : Nat → Kd} {D : Nat → Nat} {base : Nat → Option Kd} {N : Nat}
theorem step_compareFunc {i : Nat} {x y : Operand} {F G : Fo} (C : CmpRows F G) (tt : Nat) (hop : (ops[i]?).map (·.op) = some (.call { callee := .value (.func 62), args := #[x, y, .func 37], argTypes := #[22, 22, 25] })) (hx : Opd ops E D base N i x (.row F)) (hy : Opd ops E D base N i y (.row G)) (ht : Opd ops E D base N i (.tmp tt) .tabs) (hE : E i = .val (.int .i64 (Tm.cmpF F G))) : Step Tryd.prog ops Q E D base N i :=
  step_call hop (fun _ _ => by kernel_rfl) fun a w h => by
    obtain ⟨A, c, ex, ha⟩ := hx a w h
    obtain ⟨A', c', ey, ha'⟩ := hy a w h
    have hT : Tabs w := ht a w h
    rw [show (#[x, y, .func 37] : Array Operand).map a.eval = #[.slice A (Tm.len F) c, .slice A' (Tm.len G) c', cmpFn 37] by rw [← ex, ← ey]; simp; rfl, hE]
    exact below_R (C A A' c c' w.heap.size w ha ha' (Nat.le_refl _) hT)
/-- At the end: the result is a slot. -/
theorem law_out {fn : Func} {t : Tmp} (hres : fn.results = #[.tmp t]) {R : Ending → World → Prop} {v : Value} {a : Act} {w : World} (h : (Kd.val v).R (a.tmps.getD t undef) w) (hd : a.defers = []) (hR : R (.returned v) w) : bodyPost Tryd.prog fn R .ret a w := by
  have h' : a.tmps.getD t undef = v := h
  refine bodyPost_ret (v := v) ?_ hd hR
  rw [← h']
  exact results_tmp hres a.tmps Tryd.prog w
/-- At the end: the results are two slots. -/
theorem law_out2 {fn : Func} {t u : Tmp} (hres : fn.results = #[.tmp t, .tmp u]) {R : Ending → World → Prop} {v v' : Value} {a : Act} {w : World} (h : (Kd.val v).R (a.tmps.getD t undef) w) (h2 : (Kd.val v').R (a.tmps.getD u undef) w) (hd : a.defers = []) (hR : R (.returned (.tuple #[v, v'])) w) : bodyPost Tryd.prog fn R .ret a w := by
  have h' : a.tmps.getD t undef = v := h
  have h2' : a.tmps.getD u undef = v' := h2
  refine bodyPost_ret (v := .tuple #[v, v']) ?_ hd hR
  have h3 : a.tmps[t]?.getD undef = v := by simpa using h'
  have h4 : a.tmps[u]?.getD undef = v' := by simpa using h2'
  simp [results, hres, h3, h4]
theorem slots_nil {w : World} {tm : Array Value} : ∀ t k, look [] t = some k → k.R (tm.getD t undef) w := fun t k h => by cases h
theorem slots_cons {w : World} {tm : Array Value} {env : Env} (d : Nat) {k0 : Kd} (h0 : k0.R (tm.getD d undef) w) (h : ∀ t k, look env t = some k → k.R (tm.getD t undef) w) : ∀ t k, look ((d, k0) :: env) t = some k → k.R (tm.getD t undef) w := by
  intro t k hk
  rw [look_cons] at hk
  by_cases e : d = t
  · subst e
    rw [if_pos (by simp)] at hk
    cases hk
    exact h0
  · rw [if_neg (by simpa using e)] at hk
    exact h t k hk
end
end Go.Proofs.YtcjakmafojbhlaaDoor
namespace Go.Proofs.YtcjakmafojbhlaaDoor
set_option linter.unusedVariables false
set_option linter.unusedSimpArgs false
open Go.RowKit
noncomputable def oc0Ops : Array Oper := ((Tryd.f37.body).bind (findReg 0)).getD #[]
noncomputable def oc1Ops : Array Oper := ((Tryd.f37.body).bind (findReg 1)).getD #[]
noncomputable def oc2Ops : Array Oper := ((Tryd.f37.body).bind (findReg 2)).getD #[]
noncomputable def oc3Ops : Array Oper := ((Tryd.f37.body).bind (findReg 3)).getD #[]
noncomputable def oc4Ops : Array Oper := ((Tryd.f37.body).bind (findReg 4)).getD #[]
theorem oc_body : Tryd.f37.body = some (.seq (.region 0 oc0Ops false) (.seq (.region 1 oc1Ops true) (.seq (.seq (.region 2 oc2Ops false) (.cond (.tmp 35) (.seq (.region 3 oc3Ops false) .ret) .skip)) (.seq (.region 4 oc4Ops false) .ret)))) := by kernel_rfl
theorem oc0_region {Q : Exit → Act → World → Prop} (p : Pay) (l : Fo) (q : Pay) (m : Fo) (h0 : 0 ≤ p.1) (h3 : p.1 ≤ 3) (g0 : 0 ≤ q.1) (g3 : q.1 ≤ 3) {w0 : World} {a : Act} {w : World} (h : Hold 42 [(0, .term p l), (1, .term q m), (999, .tabs)] w0 a w)
    (hQ : ∀ a' w', Hold 42 [(2, .ptrT p l), (3, .ptrT q m), (4, .val (.int .i64 0)), (999, .tabs)] w0 a' w' → Q .normal a' w') : (Code.region 0 oc0Ops false).wp Tryd.prog Q a w := by
  refine region_seq (w0 := w) 3 (by kernel_rfl) ?_
  rw [show List.range 3 = [0, 1, 2] from rfl]
  refine env_one (i := 0) (d := 2) (k := .ptrT p l) (step_box (by kernel_rfl) (Opd.of_base 0 rfl) rfl) (by kernel_rfl) (by decide) h ?_
  clear h
  intro a w h
  refine env_one (i := 1) (d := 3) (k := .ptrT q m) (step_box (by kernel_rfl) (Opd.of_base 1 rfl) rfl) (by kernel_rfl) (by decide) h ?_
  clear h
  intro a w h
  refine env_one (i := 2) (d := 4) (k := .val (.int .i64 0)) (step_assign (by kernel_rfl) (Opd.const _) rfl) (by kernel_rfl) (by decide) h ?_
  clear h
  intro a w h
  exact hQ a w (h.keep [2, 3, 4, 999])
def oc1Es (p : Pay) (l : Fo) (q : Pay) (m : Fo) : List Kd := [
  .ptrI (p.1),
  .val (.int .i64 (p.1)),
  .ptrI (p.1),
  .val (.int .i64 (p.1)),
  .ptrI (q.1),
  .val (.int .i64 (q.1)),
  .ptrI (q.1),
  .val (.int .i64 (q.1)),
  .val (.int .i64 (Tm.cmpI (p.1) (q.1))),
  .ptrI (p.2.1),
  .val (.int .i64 (p.2.1)),
  .ptrI (q.2.1),
  .val (.int .i64 (q.2.1)),
  .val (.int .i64 (Tm.cmpI (p.2.1) (q.2.1))),
  .ptrR l,
  .row l,
  .val (.int .i64 ((Tm.len l : Nat) : Int)),
  .ptrR m,
  .row m,
  .val (.int .i64 ((Tm.len m : Nat) : Int)),
  .val (.int .i64 (Tm.cmpI ((Tm.len l : Nat) : Int) ((Tm.len m : Nat) : Int))),
  .ptrS (p.2.2),
  .val (.string (p.2.2)),
  .ptrS (q.2.2),
  .val (.string (q.2.2)),
  .val (.int .i64 (Tm.cmpS (p.2.2) (q.2.2))),
  .ints [(Tm.cmpI (p.1) (q.1)), (Tm.cmpI (p.2.1) (q.2.1)), (Tm.cmpI ((Tm.len l : Nat) : Int) ((Tm.len m : Nat) : Int)), (Tm.cmpS (p.2.2) (q.2.2))],
  .val (.int .i64 (Tm.orL [(Tm.cmpI (p.1) (q.1)), (Tm.cmpI (p.2.1) (q.2.1)), (Tm.cmpI ((Tm.len l : Nat) : Int) ((Tm.len m : Nat) : Int)), (Tm.cmpS (p.2.2) (q.2.2))])),
  .val (.int .i64 (Tm.orL [(Tm.cmpI (p.1) (q.1)), (Tm.cmpI (p.2.1) (q.2.1)), (Tm.cmpI ((Tm.len l : Nat) : Int) ((Tm.len m : Nat) : Int)), (Tm.cmpS (p.2.2) (q.2.2))]))]
def oc1Ds : List Nat := [6, 7, 8, 9, 10, 11, 12, 13, 14, 15, 16, 17, 18, 19, 20, 21, 22, 23, 24, 25, 26, 27, 28, 29, 30, 31, 32, 33, 5]
def oc1Env (p : Pay) (l : Fo) (q : Pay) (m : Fo) : Env := [(2, .ptrT p l), (3, .ptrT q m), (4, .val (.int .i64 0)), (999, .tabs)]
theorem oc1_0 {Q : Exit → Act → World → Prop} (p : Pay) (l : Fo) (q : Pay) (m : Fo) (h0 : 0 ≤ p.1) (h3 : p.1 ≤ 3) (g0 : 0 ≤ q.1) (g3 : q.1 ≤ 3) : RStep oc1Ops Q (fun i => ((oc1Es p l q m)[i]?).getD .any) (fun i => (oc1Ds[i]?).getD (1000 + i)) (look (oc1Env p l q m)) 42 0 := fun _ => step_field0 (by kernel_rfl) (Opd.of_base 2 rfl) rfl
theorem oc1_1 {Q : Exit → Act → World → Prop} (p : Pay) (l : Fo) (q : Pay) (m : Fo) (h0 : 0 ≤ p.1) (h3 : p.1 ≤ 3) (g0 : 0 ≤ q.1) (g3 : q.1 ≤ 3) : RStep oc1Ops Q (fun i => ((oc1Es p l q m)[i]?).getD .any) (fun i => (oc1Ds[i]?).getD (1000 + i)) (look (oc1Env p l q m)) 42 1 := fun _ => step_load_int3 (by kernel_rfl) (Opd.dep 0 rfl rfl (by kernel_rfl)) rfl
theorem oc1_2 {Q : Exit → Act → World → Prop} (p : Pay) (l : Fo) (q : Pay) (m : Fo) (h0 : 0 ≤ p.1) (h3 : p.1 ≤ 3) (g0 : 0 ≤ q.1) (g3 : q.1 ≤ 3) : RStep oc1Ops Q (fun i => ((oc1Es p l q m)[i]?).getD .any) (fun i => (oc1Ds[i]?).getD (1000 + i)) (look (oc1Env p l q m)) 42 2 := fun _ => step_place 999 (by omega) (by omega) (by kernel_rfl) (Opd.dep 1 rfl rfl (by kernel_rfl)) (Opd.of_base 999 rfl) rfl
theorem oc1_3 {Q : Exit → Act → World → Prop} (p : Pay) (l : Fo) (q : Pay) (m : Fo) (h0 : 0 ≤ p.1) (h3 : p.1 ≤ 3) (g0 : 0 ≤ q.1) (g3 : q.1 ≤ 3) : RStep oc1Ops Q (fun i => ((oc1Es p l q m)[i]?).getD .any) (fun i => (oc1Ds[i]?).getD (1000 + i)) (look (oc1Env p l q m)) 42 3 := fun _ => step_load_int3 (by kernel_rfl) (Opd.dep 2 rfl rfl (by kernel_rfl)) rfl
theorem oc1_4 {Q : Exit → Act → World → Prop} (p : Pay) (l : Fo) (q : Pay) (m : Fo) (h0 : 0 ≤ p.1) (h3 : p.1 ≤ 3) (g0 : 0 ≤ q.1) (g3 : q.1 ≤ 3) : RStep oc1Ops Q (fun i => ((oc1Es p l q m)[i]?).getD .any) (fun i => (oc1Ds[i]?).getD (1000 + i)) (look (oc1Env p l q m)) 42 4 := fun _ => step_field0 (by kernel_rfl) (Opd.of_base 3 rfl) rfl
theorem oc1_5 {Q : Exit → Act → World → Prop} (p : Pay) (l : Fo) (q : Pay) (m : Fo) (h0 : 0 ≤ p.1) (h3 : p.1 ≤ 3) (g0 : 0 ≤ q.1) (g3 : q.1 ≤ 3) : RStep oc1Ops Q (fun i => ((oc1Es p l q m)[i]?).getD .any) (fun i => (oc1Ds[i]?).getD (1000 + i)) (look (oc1Env p l q m)) 42 5 := fun _ => step_load_int3 (by kernel_rfl) (Opd.dep 4 rfl rfl (by kernel_rfl)) rfl
theorem oc1_6 {Q : Exit → Act → World → Prop} (p : Pay) (l : Fo) (q : Pay) (m : Fo) (h0 : 0 ≤ p.1) (h3 : p.1 ≤ 3) (g0 : 0 ≤ q.1) (g3 : q.1 ≤ 3) : RStep oc1Ops Q (fun i => ((oc1Es p l q m)[i]?).getD .any) (fun i => (oc1Ds[i]?).getD (1000 + i)) (look (oc1Env p l q m)) 42 6 := fun _ => step_place 999 (by omega) (by omega) (by kernel_rfl) (Opd.dep 5 rfl rfl (by kernel_rfl)) (Opd.of_base 999 rfl) rfl
theorem oc1_7 {Q : Exit → Act → World → Prop} (p : Pay) (l : Fo) (q : Pay) (m : Fo) (h0 : 0 ≤ p.1) (h3 : p.1 ≤ 3) (g0 : 0 ≤ q.1) (g3 : q.1 ≤ 3) : RStep oc1Ops Q (fun i => ((oc1Es p l q m)[i]?).getD .any) (fun i => (oc1Ds[i]?).getD (1000 + i)) (look (oc1Env p l q m)) 42 7 := fun _ => step_load_int3 (by kernel_rfl) (Opd.dep 6 rfl rfl (by kernel_rfl)) rfl
theorem oc1_8 {Q : Exit → Act → World → Prop} (p : Pay) (l : Fo) (q : Pay) (m : Fo) (h0 : 0 ≤ p.1) (h3 : p.1 ≤ 3) (g0 : 0 ≤ q.1) (g3 : q.1 ≤ 3) : RStep oc1Ops Q (fun i => ((oc1Es p l q m)[i]?).getD .any) (fun i => (oc1Ds[i]?).getD (1000 + i)) (look (oc1Env p l q m)) 42 8 := fun _ => step_compareInt (by kernel_rfl) (Opd.dep 3 rfl rfl (by kernel_rfl)) (Opd.dep 7 rfl rfl (by kernel_rfl)) rfl
theorem oc1_9 {Q : Exit → Act → World → Prop} (p : Pay) (l : Fo) (q : Pay) (m : Fo) (h0 : 0 ≤ p.1) (h3 : p.1 ≤ 3) (g0 : 0 ≤ q.1) (g3 : q.1 ≤ 3) : RStep oc1Ops Q (fun i => ((oc1Es p l q m)[i]?).getD .any) (fun i => (oc1Ds[i]?).getD (1000 + i)) (look (oc1Env p l q m)) 42 9 := fun _ => step_field1 (by kernel_rfl) (Opd.of_base 2 rfl) rfl
theorem oc1_10 {Q : Exit → Act → World → Prop} (p : Pay) (l : Fo) (q : Pay) (m : Fo) (h0 : 0 ≤ p.1) (h3 : p.1 ≤ 3) (g0 : 0 ≤ q.1) (g3 : q.1 ≤ 3) : RStep oc1Ops Q (fun i => ((oc1Es p l q m)[i]?).getD .any) (fun i => (oc1Ds[i]?).getD (1000 + i)) (look (oc1Env p l q m)) 42 10 := fun _ => step_load_int (by kernel_rfl) (Opd.dep 9 rfl rfl (by kernel_rfl)) rfl
theorem oc1_11 {Q : Exit → Act → World → Prop} (p : Pay) (l : Fo) (q : Pay) (m : Fo) (h0 : 0 ≤ p.1) (h3 : p.1 ≤ 3) (g0 : 0 ≤ q.1) (g3 : q.1 ≤ 3) : RStep oc1Ops Q (fun i => ((oc1Es p l q m)[i]?).getD .any) (fun i => (oc1Ds[i]?).getD (1000 + i)) (look (oc1Env p l q m)) 42 11 := fun _ => step_field1 (by kernel_rfl) (Opd.of_base 3 rfl) rfl
theorem oc1_12 {Q : Exit → Act → World → Prop} (p : Pay) (l : Fo) (q : Pay) (m : Fo) (h0 : 0 ≤ p.1) (h3 : p.1 ≤ 3) (g0 : 0 ≤ q.1) (g3 : q.1 ≤ 3) : RStep oc1Ops Q (fun i => ((oc1Es p l q m)[i]?).getD .any) (fun i => (oc1Ds[i]?).getD (1000 + i)) (look (oc1Env p l q m)) 42 12 := fun _ => step_load_int (by kernel_rfl) (Opd.dep 11 rfl rfl (by kernel_rfl)) rfl
theorem oc1_13 {Q : Exit → Act → World → Prop} (p : Pay) (l : Fo) (q : Pay) (m : Fo) (h0 : 0 ≤ p.1) (h3 : p.1 ≤ 3) (g0 : 0 ≤ q.1) (g3 : q.1 ≤ 3) : RStep oc1Ops Q (fun i => ((oc1Es p l q m)[i]?).getD .any) (fun i => (oc1Ds[i]?).getD (1000 + i)) (look (oc1Env p l q m)) 42 13 := fun _ => step_compareInt64 (by kernel_rfl) (Opd.dep 10 rfl rfl (by kernel_rfl)) (Opd.dep 12 rfl rfl (by kernel_rfl)) rfl
theorem oc1_14 {Q : Exit → Act → World → Prop} (p : Pay) (l : Fo) (q : Pay) (m : Fo) (h0 : 0 ≤ p.1) (h3 : p.1 ≤ 3) (g0 : 0 ≤ q.1) (g3 : q.1 ≤ 3) : RStep oc1Ops Q (fun i => ((oc1Es p l q m)[i]?).getD .any) (fun i => (oc1Ds[i]?).getD (1000 + i)) (look (oc1Env p l q m)) 42 14 := fun _ => step_field3 (by kernel_rfl) (Opd.of_base 2 rfl) rfl
theorem oc1_15 {Q : Exit → Act → World → Prop} (p : Pay) (l : Fo) (q : Pay) (m : Fo) (h0 : 0 ≤ p.1) (h3 : p.1 ≤ 3) (g0 : 0 ≤ q.1) (g3 : q.1 ≤ 3) : RStep oc1Ops Q (fun i => ((oc1Es p l q m)[i]?).getD .any) (fun i => (oc1Ds[i]?).getD (1000 + i)) (look (oc1Env p l q m)) 42 15 := fun _ => step_load_row (by kernel_rfl) (Opd.dep 14 rfl rfl (by kernel_rfl)) rfl
theorem oc1_16 {Q : Exit → Act → World → Prop} (p : Pay) (l : Fo) (q : Pay) (m : Fo) (h0 : 0 ≤ p.1) (h3 : p.1 ≤ 3) (g0 : 0 ≤ q.1) (g3 : q.1 ≤ 3) : RStep oc1Ops Q (fun i => ((oc1Es p l q m)[i]?).getD .any) (fun i => (oc1Ds[i]?).getD (1000 + i)) (look (oc1Env p l q m)) 42 16 := fun _ => step_len_row (by kernel_rfl) (Opd.dep 15 rfl rfl (by kernel_rfl)) rfl
theorem oc1_17 {Q : Exit → Act → World → Prop} (p : Pay) (l : Fo) (q : Pay) (m : Fo) (h0 : 0 ≤ p.1) (h3 : p.1 ≤ 3) (g0 : 0 ≤ q.1) (g3 : q.1 ≤ 3) : RStep oc1Ops Q (fun i => ((oc1Es p l q m)[i]?).getD .any) (fun i => (oc1Ds[i]?).getD (1000 + i)) (look (oc1Env p l q m)) 42 17 := fun _ => step_field3 (by kernel_rfl) (Opd.of_base 3 rfl) rfl
theorem oc1_18 {Q : Exit → Act → World → Prop} (p : Pay) (l : Fo) (q : Pay) (m : Fo) (h0 : 0 ≤ p.1) (h3 : p.1 ≤ 3) (g0 : 0 ≤ q.1) (g3 : q.1 ≤ 3) : RStep oc1Ops Q (fun i => ((oc1Es p l q m)[i]?).getD .any) (fun i => (oc1Ds[i]?).getD (1000 + i)) (look (oc1Env p l q m)) 42 18 := fun _ => step_load_row (by kernel_rfl) (Opd.dep 17 rfl rfl (by kernel_rfl)) rfl
theorem oc1_19 {Q : Exit → Act → World → Prop} (p : Pay) (l : Fo) (q : Pay) (m : Fo) (h0 : 0 ≤ p.1) (h3 : p.1 ≤ 3) (g0 : 0 ≤ q.1) (g3 : q.1 ≤ 3) : RStep oc1Ops Q (fun i => ((oc1Es p l q m)[i]?).getD .any) (fun i => (oc1Ds[i]?).getD (1000 + i)) (look (oc1Env p l q m)) 42 19 := fun _ => step_len_row (by kernel_rfl) (Opd.dep 18 rfl rfl (by kernel_rfl)) rfl
theorem oc1_20 {Q : Exit → Act → World → Prop} (p : Pay) (l : Fo) (q : Pay) (m : Fo) (h0 : 0 ≤ p.1) (h3 : p.1 ≤ 3) (g0 : 0 ≤ q.1) (g3 : q.1 ≤ 3) : RStep oc1Ops Q (fun i => ((oc1Es p l q m)[i]?).getD .any) (fun i => (oc1Ds[i]?).getD (1000 + i)) (look (oc1Env p l q m)) 42 20 := fun _ => step_compareInt (by kernel_rfl) (Opd.dep 16 rfl rfl (by kernel_rfl)) (Opd.dep 19 rfl rfl (by kernel_rfl)) rfl
theorem oc1_21 {Q : Exit → Act → World → Prop} (p : Pay) (l : Fo) (q : Pay) (m : Fo) (h0 : 0 ≤ p.1) (h3 : p.1 ≤ 3) (g0 : 0 ≤ q.1) (g3 : q.1 ≤ 3) : RStep oc1Ops Q (fun i => ((oc1Es p l q m)[i]?).getD .any) (fun i => (oc1Ds[i]?).getD (1000 + i)) (look (oc1Env p l q m)) 42 21 := fun _ => step_field2 (by kernel_rfl) (Opd.of_base 2 rfl) rfl
theorem oc1_22 {Q : Exit → Act → World → Prop} (p : Pay) (l : Fo) (q : Pay) (m : Fo) (h0 : 0 ≤ p.1) (h3 : p.1 ≤ 3) (g0 : 0 ≤ q.1) (g3 : q.1 ≤ 3) : RStep oc1Ops Q (fun i => ((oc1Es p l q m)[i]?).getD .any) (fun i => (oc1Ds[i]?).getD (1000 + i)) (look (oc1Env p l q m)) 42 22 := fun _ => step_load_string (by kernel_rfl) (Opd.dep 21 rfl rfl (by kernel_rfl)) rfl
theorem oc1_23 {Q : Exit → Act → World → Prop} (p : Pay) (l : Fo) (q : Pay) (m : Fo) (h0 : 0 ≤ p.1) (h3 : p.1 ≤ 3) (g0 : 0 ≤ q.1) (g3 : q.1 ≤ 3) : RStep oc1Ops Q (fun i => ((oc1Es p l q m)[i]?).getD .any) (fun i => (oc1Ds[i]?).getD (1000 + i)) (look (oc1Env p l q m)) 42 23 := fun _ => step_field2 (by kernel_rfl) (Opd.of_base 3 rfl) rfl
theorem oc1_24 {Q : Exit → Act → World → Prop} (p : Pay) (l : Fo) (q : Pay) (m : Fo) (h0 : 0 ≤ p.1) (h3 : p.1 ≤ 3) (g0 : 0 ≤ q.1) (g3 : q.1 ≤ 3) : RStep oc1Ops Q (fun i => ((oc1Es p l q m)[i]?).getD .any) (fun i => (oc1Ds[i]?).getD (1000 + i)) (look (oc1Env p l q m)) 42 24 := fun _ => step_load_string (by kernel_rfl) (Opd.dep 23 rfl rfl (by kernel_rfl)) rfl
theorem oc1_25 {Q : Exit → Act → World → Prop} (p : Pay) (l : Fo) (q : Pay) (m : Fo) (h0 : 0 ≤ p.1) (h3 : p.1 ≤ 3) (g0 : 0 ≤ q.1) (g3 : q.1 ≤ 3) : RStep oc1Ops Q (fun i => ((oc1Es p l q m)[i]?).getD .any) (fun i => (oc1Ds[i]?).getD (1000 + i)) (look (oc1Env p l q m)) 42 25 := fun _ => step_compareString (by kernel_rfl) (Opd.dep 22 rfl rfl (by kernel_rfl)) (Opd.dep 24 rfl rfl (by kernel_rfl)) rfl
theorem oc1_26 {Q : Exit → Act → World → Prop} (p : Pay) (l : Fo) (q : Pay) (m : Fo) (h0 : 0 ≤ p.1) (h3 : p.1 ≤ 3) (g0 : 0 ≤ q.1) (g3 : q.1 ≤ 3) : RStep oc1Ops Q (fun i => ((oc1Es p l q m)[i]?).getD .any) (fun i => (oc1Ds[i]?).getD (1000 + i)) (look (oc1Env p l q m)) 42 26 := fun _ => step_four (by kernel_rfl) (Opd.dep 8 rfl rfl (by kernel_rfl)) (Opd.dep 13 rfl rfl (by kernel_rfl)) (Opd.dep 20 rfl rfl (by kernel_rfl)) (Opd.dep 25 rfl rfl (by kernel_rfl)) rfl
theorem oc1_27 {Q : Exit → Act → World → Prop} (p : Pay) (l : Fo) (q : Pay) (m : Fo) (h0 : 0 ≤ p.1) (h3 : p.1 ≤ 3) (g0 : 0 ≤ q.1) (g3 : q.1 ≤ 3) : RStep oc1Ops Q (fun i => ((oc1Es p l q m)[i]?).getD .any) (fun i => (oc1Ds[i]?).getD (1000 + i)) (look (oc1Env p l q m)) 42 27 := fun _ => step_or (of_decide_eq_true rfl) (by kernel_rfl) (Opd.dep 26 rfl rfl (by kernel_rfl)) rfl
theorem oc1_28 {Q : Exit → Act → World → Prop} (p : Pay) (l : Fo) (q : Pay) (m : Fo) (h0 : 0 ≤ p.1) (h3 : p.1 ≤ 3) (g0 : 0 ≤ q.1) (g3 : q.1 ≤ 3) : RStep oc1Ops Q (fun i => ((oc1Es p l q m)[i]?).getD .any) (fun i => (oc1Ds[i]?).getD (1000 + i)) (look (oc1Env p l q m)) 42 28 := fun _ => step_assign (by kernel_rfl) (Opd.dep 27 rfl rfl (by kernel_rfl)) rfl
theorem oc1_region {Q : Exit → Act → World → Prop} (p : Pay) (l : Fo) (q : Pay) (m : Fo) (h0 : 0 ≤ p.1) (h3 : p.1 ≤ 3) (g0 : 0 ≤ q.1) (g3 : q.1 ≤ 3) {w0 : World} {a : Act} {w : World} (h : Hold 42 [(2, .ptrT p l), (3, .ptrT q m), (4, .val (.int .i64 0)), (999, .tabs)] w0 a w)
    (hQ : ∀ a' w', Hold 42 [(2, .ptrT p l), (3, .ptrT q m), (4, .val (.int .i64 0)), (5, .val (.int .i64 (Tm.orL [(Tm.cmpI (p.1) (q.1)), (Tm.cmpI (p.2.1) (q.2.1)), (Tm.cmpI ((Tm.len l : Nat) : Int) ((Tm.len m : Nat) : Int)), (Tm.cmpS (p.2.2) (q.2.2))]))), (999, .tabs)] w0 a' w' → Q .normal a' w') : (Code.region 1 oc1Ops true).wp Tryd.prog Q a w := by
  have hall : ∀ i, i < 0 → RStep oc1Ops Q (fun i => ((oc1Es p l q m)[i]?).getD .any) (fun i => (oc1Ds[i]?).getD (1000 + i)) (look (oc1Env p l q m)) 42 i := fun i hi => absurd hi (by omega)
  have hall := below_succ hall (oc1_0 p l q m h0 h3 g0 g3)
  have hall := below_succ hall (oc1_1 p l q m h0 h3 g0 g3)
  have hall := below_succ hall (oc1_2 p l q m h0 h3 g0 g3)
  have hall := below_succ hall (oc1_3 p l q m h0 h3 g0 g3)
  have hall := below_succ hall (oc1_4 p l q m h0 h3 g0 g3)
  have hall := below_succ hall (oc1_5 p l q m h0 h3 g0 g3)
  have hall := below_succ hall (oc1_6 p l q m h0 h3 g0 g3)
  have hall := below_succ hall (oc1_7 p l q m h0 h3 g0 g3)
  have hall := below_succ hall (oc1_8 p l q m h0 h3 g0 g3)
  have hall := below_succ hall (oc1_9 p l q m h0 h3 g0 g3)
  have hall := below_succ hall (oc1_10 p l q m h0 h3 g0 g3)
  have hall := below_succ hall (oc1_11 p l q m h0 h3 g0 g3)
  have hall := below_succ hall (oc1_12 p l q m h0 h3 g0 g3)
  have hall := below_succ hall (oc1_13 p l q m h0 h3 g0 g3)
  have hall := below_succ hall (oc1_14 p l q m h0 h3 g0 g3)
  have hall := below_succ hall (oc1_15 p l q m h0 h3 g0 g3)
  have hall := below_succ hall (oc1_16 p l q m h0 h3 g0 g3)
  have hall := below_succ hall (oc1_17 p l q m h0 h3 g0 g3)
  have hall := below_succ hall (oc1_18 p l q m h0 h3 g0 g3)
  have hall := below_succ hall (oc1_19 p l q m h0 h3 g0 g3)
  have hall := below_succ hall (oc1_20 p l q m h0 h3 g0 g3)
  have hall := below_succ hall (oc1_21 p l q m h0 h3 g0 g3)
  have hall := below_succ hall (oc1_22 p l q m h0 h3 g0 g3)
  have hall := below_succ hall (oc1_23 p l q m h0 h3 g0 g3)
  have hall := below_succ hall (oc1_24 p l q m h0 h3 g0 g3)
  have hall := below_succ hall (oc1_25 p l q m h0 h3 g0 g3)
  have hall := below_succ hall (oc1_26 p l q m h0 h3 g0 g3)
  have hall := below_succ hall (oc1_27 p l q m h0 h3 g0 g3)
  have hall := below_succ hall (oc1_28 p l q m h0 h3 g0 g3)
  refine env_any (env := oc1Env p l q m) (N := 42) (w0 := w0) oc1Ds (oc1Es p l q m) (by kernel_rfl) (by kernel_rfl) (of_decide_eq_true (by kernel_rfl)) (fun i hi => hall i (by rw [show (oc1Es p l q m).length = 29 by kernel_rfl] at hi; exact hi)) h fun a' w' h => ?_
  exact hQ a' w' (h.keep [2, 3, 4, 5, 999])
theorem oc2_region {Q : Exit → Act → World → Prop} (p : Pay) (l : Fo) (q : Pay) (m : Fo) (c : Int)  {w0 : World} {a : Act} {w : World} (h : Hold 42 [(2, .ptrT p l), (3, .ptrT q m), (4, .val (.int .i64 0)), (5, .val (.int .i64 c)), (999, .tabs)] w0 a w)
    (hQ : ∀ a' w', Hold 42 [(2, .ptrT p l), (3, .ptrT q m), (4, .val (.int .i64 0)), (5, .val (.int .i64 c)), (35, .val (.bool (c != 0))), (999, .tabs)] w0 a' w' → Q .normal a' w') : (Code.region 2 oc2Ops false).wp Tryd.prog Q a w := by
  refine region_seq (w0 := w) 2 (by kernel_rfl) ?_
  rw [show List.range 2 = [0, 1] from rfl]
  refine env_one (i := 0) (d := 34) (k := .val (.int .i64 c)) (step_move (by kernel_rfl) (Opd.of_base 5 rfl) rfl) (by kernel_rfl) (by decide) h ?_
  clear h
  intro a w h
  refine env_one (i := 1) (d := 35) (k := .val (.bool (c != 0))) (step_ne_int (by kernel_rfl) (Opd.of_base 34 rfl) (Opd.const _) rfl rfl) (by kernel_rfl) (by decide) h ?_
  clear h
  intro a w h
  exact hQ a w (h.keep [2, 3, 4, 5, 35, 999])
theorem oc3_region {Q : Exit → Act → World → Prop} (p : Pay) (l : Fo) (q : Pay) (m : Fo) (c : Int)  {w0 : World} {a : Act} {w : World} (h : Hold 42 [(2, .ptrT p l), (3, .ptrT q m), (4, .val (.int .i64 0)), (5, .val (.int .i64 c)), (999, .tabs)] w0 a w)
    (hQ : ∀ a' w', Hold 42 [(4, .val (.int .i64 c))] w0 a' w' → Q .normal a' w') : (Code.region 3 oc3Ops false).wp Tryd.prog Q a w := by
  refine region_seq (w0 := w) 2 (by kernel_rfl) ?_
  rw [show List.range 2 = [0, 1] from rfl]
  refine env_one (i := 0) (d := 36) (k := .val (.int .i64 c)) (step_move (by kernel_rfl) (Opd.of_base 5 rfl) rfl) (by kernel_rfl) (by decide) h ?_
  clear h
  intro a w h
  refine env_one (i := 1) (d := 4) (k := .val (.int .i64 c)) (step_assign (by kernel_rfl) (Opd.of_base 36 rfl) rfl) (by kernel_rfl) (by decide) h ?_
  clear h
  intro a w h
  exact hQ a w (h.keep [4])
theorem oc4_region {Q : Exit → Act → World → Prop} (p : Pay) (l : Fo) (q : Pay) (m : Fo) (c : Int) (C : CmpRows l m) {w0 : World} {a : Act} {w : World} (h : Hold 42 [(2, .ptrT p l), (3, .ptrT q m), (4, .val (.int .i64 0)), (5, .val (.int .i64 c)), (999, .tabs)] w0 a w)
    (hQ : ∀ a' w', Hold 42 [(4, .val (.int .i64 (Tm.cmpF l m)))] w0 a' w' → Q .normal a' w') : (Code.region 4 oc4Ops false).wp Tryd.prog Q a w := by
  refine region_seq (w0 := w) 6 (by kernel_rfl) ?_
  rw [show List.range 6 = [0, 1, 2, 3, 4, 5] from rfl]
  refine env_one (i := 0) (d := 37) (k := .ptrR l) (step_field3 (by kernel_rfl) (Opd.of_base 2 rfl) rfl) (by kernel_rfl) (by decide) h ?_
  clear h
  intro a w h
  refine env_one (i := 1) (d := 38) (k := .row l) (step_load_row (by kernel_rfl) (Opd.of_base 37 rfl) rfl) (by kernel_rfl) (by decide) h ?_
  clear h
  intro a w h
  refine env_one (i := 2) (d := 39) (k := .ptrR m) (step_field3 (by kernel_rfl) (Opd.of_base 3 rfl) rfl) (by kernel_rfl) (by decide) h ?_
  clear h
  intro a w h
  refine env_one (i := 3) (d := 40) (k := .row m) (step_load_row (by kernel_rfl) (Opd.of_base 39 rfl) rfl) (by kernel_rfl) (by decide) h ?_
  clear h
  intro a w h
  refine env_one (i := 4) (d := 41) (k := .val (.int .i64 (Tm.cmpF l m))) (step_compareFunc C 999 (by kernel_rfl) (Opd.of_base 38 rfl) (Opd.of_base 40 rfl) (Opd.of_base 999 rfl) rfl) (by kernel_rfl) (by decide) h ?_
  clear h
  intro a w h
  refine env_one (i := 5) (d := 4) (k := .val (.int .i64 (Tm.cmpF l m))) (step_assign (by kernel_rfl) (Opd.of_base 41 rfl) rfl) (by kernel_rfl) (by decide) h ?_
  clear h
  intro a w h
  exact hQ a w (h.keep [4])
theorem head_or (p : Pay) (l : Fo) (q : Pay) (m : Fo) : Tm.orL [(Tm.cmpI (p.1) (q.1)), (Tm.cmpI (p.2.1) (q.2.1)), (Tm.cmpI ((Tm.len l : Nat) : Int) ((Tm.len m : Nat) : Int)), (Tm.cmpS (p.2.2) (q.2.2))] = Tm.headC p (Tm.len l) q (Tm.len m) := by
  show Tm.lex _ (Tm.lex _ (Tm.lex _ (Tm.lex _ 0))) = _
  unfold Tm.headC
  congr 3
  unfold Tm.lex
  split <;> simp_all
theorem kind_range {p : Pay} {l : Fo} (h : Tm.goodB p l = true) : 0 ≤ p.1 ∧ p.1 ≤ 3 := by
  unfold Tm.goodB at h
  rw [Bool.and_eq_true] at h
  have h := h.1
  unfold Tm.nodeB at h
  by_cases h0 : p.1 = 0
  · omega
  by_cases h1 : p.1 = 1
  · omega
  by_cases h2 : p.1 = 2
  · omega
  by_cases h3 : p.1 = 3
  · omega
  rw [if_neg h0, if_neg h1, if_neg h2, if_neg h3] at h
  cases h
theorem oc_head (p : Pay) (l : Fo) (q : Pay) (m : Fo) (A A' : Option Addr) (c c' : Nat) (w : World) (hA : ArgsB w w.heap.size A (Tm.len l) l) (hA' : ArgsB w w.heap.size A' (Tm.len m) m) (hT : Tabs w) (h0 : 0 ≤ p.1) (h3 : p.1 ≤ 3) (g0 : 0 ≤ q.1) (g3 : q.1 ≤ 3) (C : CmpRows l m) :
    Calls Tryd.prog 37 #[tv p A (Tm.len l) c, tv q A' (Tm.len m) c'] w fun e w' => e = .returned (.int .i64 (Tm.cmpT p l q m)) ∧ Below w.heap.size w w' := by
  obtain ⟨d, hd⟩ : ∃ d, d = Tm.headC p (Tm.len l) q (Tm.len m) := ⟨_, rfl⟩
  have hd2 := head_or p l q m
  rw [← hd] at hd2
  have hres : Tm.cmpT p l q m = Tm.lex d (Tm.cmpF l m) := by rw [hd]; rfl
  rw [hres]
  refine calls_of_wp Tryd.func37 oc_body ?_
  obtain ⟨v0, hv0⟩ : ∃ v : Value, v = tv p A (Tm.len l) c := ⟨_, rfl⟩
  obtain ⟨v1, hv1⟩ : ∃ v : Value, v = tv q A' (Tm.len m) c' := ⟨_, rfl⟩
  rw [← hv0, ← hv1]
  have hk0 : (Kd.term p l).R v0 w := ⟨A, c, hv0, hA⟩
  have hk1 : (Kd.term q m).R v1 w := ⟨A', c', hv1, hA'⟩
  have hs : (#[v0, v1] ++ Array.replicate (Tryd.f37.ntmps - #[v0, v1].size) undef : Array Value).size = 42 := by kernel_rfl
  have gs0 : (#[v0, v1] ++ Array.replicate (Tryd.f37.ntmps - #[v0, v1].size) undef : Array Value).getD 0 undef = v0 := by kernel_rfl
  have gs1 : (#[v0, v1] ++ Array.replicate (Tryd.f37.ntmps - #[v0, v1].size) undef : Array Value).getD 1 undef = v1 := by kernel_rfl
  generalize (#[v0, v1] ++ Array.replicate (Tryd.f37.ntmps - #[v0, v1].size) undef : Array Value) = tm at hs gs0 gs1 ⊢
  refine wp_seq ?_
  refine oc0_region p l q m h0 h3 g0 g3 (w0 := w) ⟨hs, rfl, Below.refl _ _, (slots_cons 0 (by rw [gs0]; exact hk0) (slots_cons 1 (by rw [gs1]; exact hk1) (slots_cons 999 (k0 := .tabs) hT slots_nil)))⟩ ?_
  intro a w h
  show Code.wp _ _ _ a w
  refine wp_seq ?_
  refine oc1_region p l q m h0 h3 g0 g3 h ?_
  intro a w h
  show Code.wp _ _ _ a w
  rw [hd2] at h
  refine wp_seq ?_
  refine wp_seq ?_
  refine oc2_region p l q m d h ?_
  intro a w h
  show Code.wp _ _ _ a w
  by_cases hz : d = 0
  · subst hz
    refine env_cond (b := false) rfl (h : Hold 42 [(2, .ptrT p l), (3, .ptrT q m), (4, .val (.int .i64 0)), (5, .val (.int .i64 0)), (35, .val (.bool false)), (999, .tabs)] _ a w) ?_
    refine wp_skip ?_
    refine wp_seq ?_
    refine oc4_region p l q m 0 C (h.keep [2, 3, 4, 5, 999]) ?_
    intro a w h
    refine wp_ret ?_
    (try simp only [then_ret, block_ret])
    exact law_out rfl (h.get 4 rfl) h.defers ⟨rfl, h.world⟩
  · have hb : (d != 0) = true := by simpa using hz
    rw [hb] at h
    refine env_cond (b := true) rfl h ?_
    refine wp_seq ?_
    refine oc3_region p l q m d (h.keep [2, 3, 4, 5, 999]) ?_
    intro a w h
    refine wp_ret ?_
    (try simp only [then_ret, block_ret])
    refine law_out rfl (h.get 4 rfl) h.defers ⟨?_, h.world⟩
    unfold Tm.lex
    rw [if_neg hz]
theorem compare_up (m : Nat) : Cmps 37 m := by
  induction m with
  | zero => intro p l A c p' l' A' c' B w hm; omega
  | succ m ih =>
    intro p l A c p' l' A' c' B w hm hg hg' hA hA' hBw hT
    have hk := kind_range hg
    have hk' := kind_range hg'
    have hl : Tm.allB l = true := by unfold Tm.goodB at hg; rw [Bool.and_eq_true] at hg; exact hg.2
    have hl' : Tm.allB l' = true := by unfold Tm.goodB at hg'; rw [Bool.and_eq_true] at hg'; exact hg'.2
    exact oc_head p l p' l' A A' c c' w (hA.up hBw) (hA'.up hBw) hT hk.1 hk.2 hk'.1 hk'.2 (compareFunc_up m ih l l' (by omega) hl hl')
theorem compare_any (p : Pay) (l : Fo) (A : Option Addr) (c : Nat) (p' : Pay) (l' : Fo) (A' : Option Addr) (c' B : Nat) (w : World) (hg : Tm.goodB p l = true) (hg' : Tm.goodB p' l' = true) (hA : ArgsB w B A (Tm.len l) l) (hA' : ArgsB w B A' (Tm.len l') l') (hB : B ≤ w.heap.size) (hT : Tabs w) :
    Calls Tryd.prog 37 #[tv p A (Tm.len l) c, tv p' A' (Tm.len l') c'] w fun e w' => e = .returned (.int .i64 (Tm.cmpT p l p' l')) ∧ Below w.heap.size w w' :=
  compare_up (Tm.size l + 1) p l A c p' l' A' c' B w (by omega) hg hg' hA hA' hB hT
end Go.Proofs.YtcjakmafojbhlaaDoor
namespace Go.Proofs.YtcjakmafojbhlaaDoor
set_option linter.unusedVariables false
set_option linter.unusedSimpArgs false
open Go.RowKit
theorem Tm.name_size {p : Pay} {l : Fo} (h : Tm.goodB p l = true) : p.2.2.size ≤ 100 := by
  unfold Tm.goodB at h
  rw [Bool.and_eq_true] at h
  have h := h.1
  unfold Tm.nodeB at h
  by_cases h0 : p.1 = 0
  · rw [if_pos h0] at h; simp only [Bool.and_eq_true, decide_eq_true_eq] at h; omega
  by_cases h1 : p.1 = 1
  · rw [if_neg h0, if_pos h1] at h; simp only [Bool.and_eq_true, decide_eq_true_eq] at h; omega
  by_cases h2 : p.1 = 2
  · rw [if_neg h0, if_neg h1, if_pos h2] at h; simp only [Bool.and_eq_true, decide_eq_true_eq] at h; omega
  by_cases h3 : p.1 = 3
  · rw [if_neg h0, if_neg h1, if_neg h2, if_pos h3] at h; simp only [Bool.and_eq_true, decide_eq_true_eq] at h; omega
  rw [if_neg h0, if_neg h1, if_neg h2, if_neg h3] at h
  cases h
theorem Tm.len_small {p : Pay} {l : Fo} (h : Tm.goodB p l = true) : Tm.len l < 9223372036854775807 := by
  unfold Tm.goodB at h
  rw [Bool.and_eq_true] at h
  have h := h.1
  unfold Tm.nodeB at h
  by_cases h0 : p.1 = 0
  · rw [if_pos h0] at h; simp only [Bool.and_eq_true, decide_eq_true_eq] at h; omega
  by_cases h1 : p.1 = 1
  · rw [if_neg h0, if_pos h1] at h; simp only [Bool.and_eq_true, decide_eq_true_eq] at h; omega
  by_cases h2 : p.1 = 2
  · rw [if_neg h0, if_neg h1, if_pos h2] at h; simp only [Bool.and_eq_true, decide_eq_true_eq] at h; omega
  by_cases h3 : p.1 = 3
  · rw [if_neg h0, if_neg h1, if_neg h2, if_pos h3] at h; simp only [Bool.and_eq_true, decide_eq_true_eq] at h; omega
  rw [if_neg h0, if_neg h1, if_neg h2, if_neg h3] at h
  cases h
def CmpPair (f : Nat) (p : Pay) (l : Fo) (p' : Pay) (l' : Fo) : Prop := ∀ (A A' : Option Addr) (c c' : Nat) (w : World), ArgsB w w.heap.size A (Tm.len l) l → ArgsB w w.heap.size A' (Tm.len l') l' →
    Calls Tryd.prog f #[tv p A (Tm.len l) c, tv p' A' (Tm.len l') c'] w fun e w' => e = .returned (.int .i64 (Tm.cmpT p l p' l')) ∧ Below w.heap.size w w'
section
variable {ops : Array Oper} {Q : Exit → Act → World → Prop} {E : Nat → Kd} {D : Nat → Nat} {base : Nat → Option Kd} {N : Nat}
theorem step_rnumber {i : Nat} {x y : Operand} {m n : Int} (hop : (ops[i]?).map (·.op) = some (.call { callee := .value (.func 63), args := #[x, y], argTypes := #[2, 2] })) (hx : Opd ops E D base N i x (.val (.int .i64 m))) (hy : Opd ops E D base N i y (.val (.int .i64 n))) (hE : E i = .val (.int .i64 (Tm.cmpI m n))) : Step Tryd.prog ops Q E D base N i :=
  step_call hop (fun _ _ => by kernel_rfl) fun a w h => by
    have ex : a.eval x = .int .i64 m := hx a w h
    have ey : a.eval y = .int .i64 n := hy a w h
    rw [show (#[x, y] : Array Operand).map a.eval = #[.int .i64 m, .int .i64 n] by rw [← ex, ← ey]; simp, hE]
    exact pure_R (rnumber_any m n w) rfl
theorem step_rnames {i : Nat} {x y : Operand} {s t : ByteArray} (hs : s.size ≤ 100) (ht : t.size ≤ 100) (hop : (ops[i]?).map (·.op) = some (.call { callee := .value (.func 64), args := #[x, y], argTypes := #[9, 9] })) (hx : Opd ops E D base N i x (.val (.string s))) (hy : Opd ops E D base N i y (.val (.string t))) (hE : E i = .val (.int .i64 (Tm.cmpS s t))) : Step Tryd.prog ops Q E D base N i :=
  step_call hop (fun _ _ => by kernel_rfl) fun a w h => by
    have ex : a.eval x = .string s := hx a w h
    have ey : a.eval y = .string t := hy a w h
    rw [show (#[x, y] : Array Operand).map a.eval = #[.string s, .string t] by rw [← ex, ← ey]; simp, hE]
    exact below_R (rnames_any s t w (by omega) (by omega))
theorem step_rcompare {i : Nat} {x y : Operand} {p p' : Pay} {l l' : Fo} (C : CmpPair 38 p l p' l') (hop : (ops[i]?).map (·.op) = some (.call { callee := .value (.func 38), args := #[x, y], argTypes := #[24, 24] })) (hx : Opd ops E D base N i x (.term p l)) (hy : Opd ops E D base N i y (.term p' l')) (hE : E i = .val (.int .i64 (Tm.cmpT p l p' l'))) : Step Tryd.prog ops Q E D base N i :=
  step_call hop (fun _ _ => by kernel_rfl) fun a w h => by
    obtain ⟨A, c, ex, ha⟩ := hx a w h
    obtain ⟨A', c', ey, ha'⟩ := hy a w h
    rw [show (#[x, y] : Array Operand).map a.eval = #[tv p A (Tm.len l) c, tv p' A' (Tm.len l') c'] by rw [← ex, ← ey]; simp, hE]
    exact below_R (C A A' c c' w ha ha')
end
noncomputable def rc0Ops : Array Oper := ((Tryd.f38.body).bind (findReg 0)).getD #[]
noncomputable def rc1Ops : Array Oper := ((Tryd.f38.body).bind (findReg 1)).getD #[]
noncomputable def rc2Ops : Array Oper := ((Tryd.f38.body).bind (findReg 2)).getD #[]
noncomputable def rc3Ops : Array Oper := ((Tryd.f38.body).bind (findReg 3)).getD #[]
noncomputable def rc4Ops : Array Oper := ((Tryd.f38.body).bind (findReg 4)).getD #[]
noncomputable def rc5Ops : Array Oper := ((Tryd.f38.body).bind (findReg 5)).getD #[]
noncomputable def rc6Ops : Array Oper := ((Tryd.f38.body).bind (findReg 6)).getD #[]
noncomputable def rc7Ops : Array Oper := ((Tryd.f38.body).bind (findReg 7)).getD #[]
noncomputable def rc8Ops : Array Oper := ((Tryd.f38.body).bind (findReg 8)).getD #[]
noncomputable def rc9Ops : Array Oper := ((Tryd.f38.body).bind (findReg 9)).getD #[]
noncomputable def rc10Ops : Array Oper := ((Tryd.f38.body).bind (findReg 10)).getD #[]
noncomputable def rc11Ops : Array Oper := ((Tryd.f38.body).bind (findReg 11)).getD #[]
noncomputable def rc12Ops : Array Oper := ((Tryd.f38.body).bind (findReg 12)).getD #[]
theorem rc_body : Tryd.f38.body = some (.seq (.region 0 rc0Ops false) (.seq (.seq (.region 1 rc1Ops false) (.cond (.tmp 11) (.seq (.region 2 rc2Ops false) .ret) .skip)) (.seq (.region 3 rc3Ops false) (.seq (.seq (.region 4 rc4Ops false) (.cond (.tmp 23) (.region 5 rc5Ops false) .skip)) (.seq (.seq (.region 6 rc6Ops false) (.cond (.tmp 32) (.region 7 rc7Ops false) .skip)) (.seq (.seq (.region 8 rc8Ops false) (.block 0 (.loop (.seq (.seq (.region 9 rc9Ops false) (.cond (.tmp 46) .skip (.exit 0))) (.seq (.block 1 (.region 11 rc11Ops true)) (.region 10 rc10Ops false)))))) (.seq (.region 12 rc12Ops false) .ret))))))) := by kernel_rfl
theorem rc0_region {Q : Exit → Act → World → Prop} (p : Pay) (l : Fo) (q : Pay) (m : Fo)  {w0 : World} {a : Act} {w : World} (h : Hold 61 [(0, .term p l), (1, .term q m)] w0 a w)
    (hQ : ∀ a' w', Hold 61 [(2, .ptrT p l), (3, .ptrT q m), (4, .val (.int .i64 0))] w0 a' w' → Q .normal a' w') : (Code.region 0 rc0Ops false).wp Tryd.prog Q a w := by
  refine region_seq (w0 := w) 3 (by kernel_rfl) ?_
  rw [show List.range 3 = [0, 1, 2] from rfl]
  refine env_one (i := 0) (d := 2) (k := .ptrT p l) (step_box (by kernel_rfl) (Opd.of_base 0 rfl) rfl) (by kernel_rfl) (by decide) h ?_
  clear h
  intro a w h
  refine env_one (i := 1) (d := 3) (k := .ptrT q m) (step_box (by kernel_rfl) (Opd.of_base 1 rfl) rfl) (by kernel_rfl) (by decide) h ?_
  clear h
  intro a w h
  refine env_one (i := 2) (d := 4) (k := .val (.int .i64 0)) (step_assign (by kernel_rfl) (Opd.const _) rfl) (by kernel_rfl) (by decide) h ?_
  clear h
  intro a w h
  exact hQ a w (h.keep [2, 3, 4])
theorem rc1_region {Q : Exit → Act → World → Prop} (p : Pay) (l : Fo) (q : Pay) (m : Fo)  {w0 : World} {a : Act} {w : World} (h : Hold 61 [(2, .ptrT p l), (3, .ptrT q m), (4, .val (.int .i64 0))] w0 a w)
    (hQ : ∀ a' w', Hold 61 [(2, .ptrT p l), (3, .ptrT q m), (4, .val (.int .i64 0)), (11, .val (.bool ((p.1) != (q.1))))] w0 a' w' → Q .normal a' w') : (Code.region 1 rc1Ops false).wp Tryd.prog Q a w := by
  refine region_seq (w0 := w) 5 (by kernel_rfl) ?_
  rw [show List.range 5 = [0, 1, 2, 3, 4] from rfl]
  refine env_one (i := 0) (d := 7) (k := .ptrI (p.1)) (step_field0 (by kernel_rfl) (Opd.of_base 2 rfl) rfl) (by kernel_rfl) (by decide) h ?_
  clear h
  intro a w h
  refine env_one (i := 1) (d := 8) (k := .val (.int .i64 (p.1))) (step_load_int3 (by kernel_rfl) (Opd.of_base 7 rfl) rfl) (by kernel_rfl) (by decide) h ?_
  clear h
  intro a w h
  refine env_one (i := 2) (d := 9) (k := .ptrI (q.1)) (step_field0 (by kernel_rfl) (Opd.of_base 3 rfl) rfl) (by kernel_rfl) (by decide) h ?_
  clear h
  intro a w h
  refine env_one (i := 3) (d := 10) (k := .val (.int .i64 (q.1))) (step_load_int3 (by kernel_rfl) (Opd.of_base 9 rfl) rfl) (by kernel_rfl) (by decide) h ?_
  clear h
  intro a w h
  refine env_one (i := 4) (d := 11) (k := .val (.bool ((p.1) != (q.1)))) (step_ne_int (by kernel_rfl) (Opd.of_base 8 rfl) (Opd.of_base 10 rfl) rfl rfl) (by kernel_rfl) (by decide) h ?_
  clear h
  intro a w h
  exact hQ a w (h.keep [2, 3, 4, 11])
theorem rc2_region {Q : Exit → Act → World → Prop} (p : Pay) (l : Fo) (q : Pay) (m : Fo)  {w0 : World} {a : Act} {w : World} (h : Hold 61 [(2, .ptrT p l), (3, .ptrT q m), (4, .val (.int .i64 0))] w0 a w)
    (hQ : ∀ a' w', Hold 61 [(4, .val (.int .i64 (Tm.cmpI (p.1) (q.1))))] w0 a' w' → Q .normal a' w') : (Code.region 2 rc2Ops false).wp Tryd.prog Q a w := by
  refine region_seq (w0 := w) 6 (by kernel_rfl) ?_
  rw [show List.range 6 = [0, 1, 2, 3, 4, 5] from rfl]
  refine env_one (i := 0) (d := 12) (k := .ptrI (p.1)) (step_field0 (by kernel_rfl) (Opd.of_base 2 rfl) rfl) (by kernel_rfl) (by decide) h ?_
  clear h
  intro a w h
  refine env_one (i := 1) (d := 13) (k := .val (.int .i64 (p.1))) (step_load_int3 (by kernel_rfl) (Opd.of_base 12 rfl) rfl) (by kernel_rfl) (by decide) h ?_
  clear h
  intro a w h
  refine env_one (i := 2) (d := 14) (k := .ptrI (q.1)) (step_field0 (by kernel_rfl) (Opd.of_base 3 rfl) rfl) (by kernel_rfl) (by decide) h ?_
  clear h
  intro a w h
  refine env_one (i := 3) (d := 15) (k := .val (.int .i64 (q.1))) (step_load_int3 (by kernel_rfl) (Opd.of_base 14 rfl) rfl) (by kernel_rfl) (by decide) h ?_
  clear h
  intro a w h
  refine env_one (i := 4) (d := 16) (k := .val (.int .i64 (Tm.cmpI (p.1) (q.1)))) (step_rnumber (by kernel_rfl) (Opd.of_base 13 rfl) (Opd.of_base 15 rfl) rfl) (by kernel_rfl) (by decide) h ?_
  clear h
  intro a w h
  refine env_one (i := 5) (d := 4) (k := .val (.int .i64 (Tm.cmpI (p.1) (q.1)))) (step_assign (by kernel_rfl) (Opd.of_base 16 rfl) rfl) (by kernel_rfl) (by decide) h ?_
  clear h
  intro a w h
  exact hQ a w (h.keep [4])
theorem rc3_region {Q : Exit → Act → World → Prop} (p : Pay) (l : Fo) (q : Pay) (m : Fo)  {w0 : World} {a : Act} {w : World} (h : Hold 61 [(2, .ptrT p l), (3, .ptrT q m), (4, .val (.int .i64 0))] w0 a w)
    (hQ : ∀ a' w', Hold 61 [(2, .ptrT p l), (3, .ptrT q m), (4, .val (.int .i64 0)), (5, .val (.int .i64 (Tm.cmpI (p.2.1) (q.2.1))))] w0 a' w' → Q .normal a' w') : (Code.region 3 rc3Ops false).wp Tryd.prog Q a w := by
  refine region_seq (w0 := w) 6 (by kernel_rfl) ?_
  rw [show List.range 6 = [0, 1, 2, 3, 4, 5] from rfl]
  refine env_one (i := 0) (d := 17) (k := .ptrI (p.2.1)) (step_field1 (by kernel_rfl) (Opd.of_base 2 rfl) rfl) (by kernel_rfl) (by decide) h ?_
  clear h
  intro a w h
  refine env_one (i := 1) (d := 18) (k := .val (.int .i64 (p.2.1))) (step_load_int (by kernel_rfl) (Opd.of_base 17 rfl) rfl) (by kernel_rfl) (by decide) h ?_
  clear h
  intro a w h
  refine env_one (i := 2) (d := 19) (k := .ptrI (q.2.1)) (step_field1 (by kernel_rfl) (Opd.of_base 3 rfl) rfl) (by kernel_rfl) (by decide) h ?_
  clear h
  intro a w h
  refine env_one (i := 3) (d := 20) (k := .val (.int .i64 (q.2.1))) (step_load_int (by kernel_rfl) (Opd.of_base 19 rfl) rfl) (by kernel_rfl) (by decide) h ?_
  clear h
  intro a w h
  refine env_one (i := 4) (d := 21) (k := .val (.int .i64 (Tm.cmpI (p.2.1) (q.2.1)))) (step_rnumber (by kernel_rfl) (Opd.of_base 18 rfl) (Opd.of_base 20 rfl) rfl) (by kernel_rfl) (by decide) h ?_
  clear h
  intro a w h
  refine env_one (i := 5) (d := 5) (k := .val (.int .i64 (Tm.cmpI (p.2.1) (q.2.1)))) (step_assign (by kernel_rfl) (Opd.of_base 21 rfl) rfl) (by kernel_rfl) (by decide) h ?_
  clear h
  intro a w h
  exact hQ a w (h.keep [2, 3, 4, 5])
theorem rc4_region {Q : Exit → Act → World → Prop} (p : Pay) (l : Fo) (q : Pay) (m : Fo) (c : Int)  {w0 : World} {a : Act} {w : World} (h : Hold 61 [(2, .ptrT p l), (3, .ptrT q m), (4, .val (.int .i64 0)), (5, .val (.int .i64 c))] w0 a w)
    (hQ : ∀ a' w', Hold 61 [(2, .ptrT p l), (3, .ptrT q m), (4, .val (.int .i64 0)), (5, .val (.int .i64 c)), (23, .val (.bool (c == 0)))] w0 a' w' → Q .normal a' w') : (Code.region 4 rc4Ops false).wp Tryd.prog Q a w := by
  refine region_seq (w0 := w) 2 (by kernel_rfl) ?_
  rw [show List.range 2 = [0, 1] from rfl]
  refine env_one (i := 0) (d := 22) (k := .val (.int .i64 c)) (step_move (by kernel_rfl) (Opd.of_base 5 rfl) rfl) (by kernel_rfl) (by decide) h ?_
  clear h
  intro a w h
  refine env_one (i := 1) (d := 23) (k := .val (.bool (c == 0))) (step_eqb_int (by kernel_rfl) (Opd.of_base 22 rfl) (Opd.const _) rfl rfl) (by kernel_rfl) (by decide) h ?_
  clear h
  intro a w h
  exact hQ a w (h.keep [2, 3, 4, 5, 23])
theorem rc5_region {Q : Exit → Act → World → Prop} (p : Pay) (l : Fo) (q : Pay) (m : Fo) (c : Int)  {w0 : World} {a : Act} {w : World} (h : Hold 61 [(2, .ptrT p l), (3, .ptrT q m), (4, .val (.int .i64 0)), (5, .val (.int .i64 c))] w0 a w)
    (hQ : ∀ a' w', Hold 61 [(2, .ptrT p l), (3, .ptrT q m), (4, .val (.int .i64 0)), (5, .val (.int .i64 (Tm.cmpI ((Tm.len l : Nat) : Int) ((Tm.len m : Nat) : Int))))] w0 a' w' → Q .normal a' w') : (Code.region 5 rc5Ops false).wp Tryd.prog Q a w := by
  refine region_seq (w0 := w) 8 (by kernel_rfl) ?_
  rw [show List.range 8 = [0, 1, 2, 3, 4, 5, 6, 7] from rfl]
  refine env_one (i := 0) (d := 24) (k := .ptrR l) (step_field3 (by kernel_rfl) (Opd.of_base 2 rfl) rfl) (by kernel_rfl) (by decide) h ?_
  clear h
  intro a w h
  refine env_one (i := 1) (d := 25) (k := .row l) (step_load_row (by kernel_rfl) (Opd.of_base 24 rfl) rfl) (by kernel_rfl) (by decide) h ?_
  clear h
  intro a w h
  refine env_one (i := 2) (d := 26) (k := .val (.int .i64 ((Tm.len l : Nat) : Int))) (step_len_row (by kernel_rfl) (Opd.of_base 25 rfl) rfl) (by kernel_rfl) (by decide) h ?_
  clear h
  intro a w h
  refine env_one (i := 3) (d := 27) (k := .ptrR m) (step_field3 (by kernel_rfl) (Opd.of_base 3 rfl) rfl) (by kernel_rfl) (by decide) h ?_
  clear h
  intro a w h
  refine env_one (i := 4) (d := 28) (k := .row m) (step_load_row (by kernel_rfl) (Opd.of_base 27 rfl) rfl) (by kernel_rfl) (by decide) h ?_
  clear h
  intro a w h
  refine env_one (i := 5) (d := 29) (k := .val (.int .i64 ((Tm.len m : Nat) : Int))) (step_len_row (by kernel_rfl) (Opd.of_base 28 rfl) rfl) (by kernel_rfl) (by decide) h ?_
  clear h
  intro a w h
  refine env_one (i := 6) (d := 30) (k := .val (.int .i64 (Tm.cmpI ((Tm.len l : Nat) : Int) ((Tm.len m : Nat) : Int)))) (step_rnumber (by kernel_rfl) (Opd.of_base 26 rfl) (Opd.of_base 29 rfl) rfl) (by kernel_rfl) (by decide) h ?_
  clear h
  intro a w h
  refine env_one (i := 7) (d := 5) (k := .val (.int .i64 (Tm.cmpI ((Tm.len l : Nat) : Int) ((Tm.len m : Nat) : Int)))) (step_assign (by kernel_rfl) (Opd.of_base 30 rfl) rfl) (by kernel_rfl) (by decide) h ?_
  clear h
  intro a w h
  exact hQ a w (h.keep [2, 3, 4, 5])
theorem rc6_region {Q : Exit → Act → World → Prop} (p : Pay) (l : Fo) (q : Pay) (m : Fo) (c : Int)  {w0 : World} {a : Act} {w : World} (h : Hold 61 [(2, .ptrT p l), (3, .ptrT q m), (4, .val (.int .i64 0)), (5, .val (.int .i64 c))] w0 a w)
    (hQ : ∀ a' w', Hold 61 [(2, .ptrT p l), (3, .ptrT q m), (4, .val (.int .i64 0)), (5, .val (.int .i64 c)), (32, .val (.bool (c == 0)))] w0 a' w' → Q .normal a' w') : (Code.region 6 rc6Ops false).wp Tryd.prog Q a w := by
  refine region_seq (w0 := w) 2 (by kernel_rfl) ?_
  rw [show List.range 2 = [0, 1] from rfl]
  refine env_one (i := 0) (d := 31) (k := .val (.int .i64 c)) (step_move (by kernel_rfl) (Opd.of_base 5 rfl) rfl) (by kernel_rfl) (by decide) h ?_
  clear h
  intro a w h
  refine env_one (i := 1) (d := 32) (k := .val (.bool (c == 0))) (step_eqb_int (by kernel_rfl) (Opd.of_base 31 rfl) (Opd.const _) rfl rfl) (by kernel_rfl) (by decide) h ?_
  clear h
  intro a w h
  exact hQ a w (h.keep [2, 3, 4, 5, 32])
theorem rc7_region {Q : Exit → Act → World → Prop} (p : Pay) (l : Fo) (q : Pay) (m : Fo) (c : Int) (n1 : p.2.2.size ≤ 100) (n2 : q.2.2.size ≤ 100) {w0 : World} {a : Act} {w : World} (h : Hold 61 [(2, .ptrT p l), (3, .ptrT q m), (4, .val (.int .i64 0)), (5, .val (.int .i64 c))] w0 a w)
    (hQ : ∀ a' w', Hold 61 [(2, .ptrT p l), (3, .ptrT q m), (4, .val (.int .i64 0)), (5, .val (.int .i64 (Tm.cmpS (p.2.2) (q.2.2))))] w0 a' w' → Q .normal a' w') : (Code.region 7 rc7Ops false).wp Tryd.prog Q a w := by
  refine region_seq (w0 := w) 6 (by kernel_rfl) ?_
  rw [show List.range 6 = [0, 1, 2, 3, 4, 5] from rfl]
  refine env_one (i := 0) (d := 33) (k := .ptrS (p.2.2)) (step_field2 (by kernel_rfl) (Opd.of_base 2 rfl) rfl) (by kernel_rfl) (by decide) h ?_
  clear h
  intro a w h
  refine env_one (i := 1) (d := 34) (k := .val (.string (p.2.2))) (step_load_string (by kernel_rfl) (Opd.of_base 33 rfl) rfl) (by kernel_rfl) (by decide) h ?_
  clear h
  intro a w h
  refine env_one (i := 2) (d := 35) (k := .ptrS (q.2.2)) (step_field2 (by kernel_rfl) (Opd.of_base 3 rfl) rfl) (by kernel_rfl) (by decide) h ?_
  clear h
  intro a w h
  refine env_one (i := 3) (d := 36) (k := .val (.string (q.2.2))) (step_load_string (by kernel_rfl) (Opd.of_base 35 rfl) rfl) (by kernel_rfl) (by decide) h ?_
  clear h
  intro a w h
  refine env_one (i := 4) (d := 37) (k := .val (.int .i64 (Tm.cmpS (p.2.2) (q.2.2)))) (step_rnames n1 n2 (by kernel_rfl) (Opd.of_base 34 rfl) (Opd.of_base 36 rfl) rfl) (by kernel_rfl) (by decide) h ?_
  clear h
  intro a w h
  refine env_one (i := 5) (d := 5) (k := .val (.int .i64 (Tm.cmpS (p.2.2) (q.2.2)))) (step_assign (by kernel_rfl) (Opd.of_base 37 rfl) rfl) (by kernel_rfl) (by decide) h ?_
  clear h
  intro a w h
  exact hQ a w (h.keep [2, 3, 4, 5])
theorem rc8_region {Q : Exit → Act → World → Prop} (p : Pay) (l : Fo) (q : Pay) (m : Fo) (c : Int)  {w0 : World} {a : Act} {w : World} (h : Hold 61 [(2, .ptrT p l), (3, .ptrT q m), (4, .val (.int .i64 0)), (5, .val (.int .i64 c))] w0 a w)
    (hQ : ∀ a' w', Hold 61 [(2, .ptrT p l), (3, .ptrT q m), (5, .val (.int .i64 c)), (6, .val (.int .i64 0))] w0 a' w' → Q .normal a' w') : (Code.region 8 rc8Ops false).wp Tryd.prog Q a w := by
  refine region_seq (w0 := w) 1 (by kernel_rfl) ?_
  rw [show List.range 1 = [0] from rfl]
  refine env_one (i := 0) (d := 6) (k := .val (.int .i64 0)) (step_assign (by kernel_rfl) (Opd.const _) rfl) (by kernel_rfl) (by decide) h ?_
  clear h
  intro a w h
  exact hQ a w (h.keep [2, 3, 5, 6])
theorem rc9n_region {Q : Exit → Act → World → Prop} (p : Pay) (l : Fo) (q : Pay) (m : Fo) (c : Int) (k : Nat) (hk : ¬ k < Tm.len l) {w0 : World} {a : Act} {w : World} (h : Hold 61 [(2, .ptrT p l), (3, .ptrT q m), (5, .val (.int .i64 c)), (6, .val (.int .i64 ((k : Nat) : Int)))] w0 a w)
    (hQ : ∀ a' w', Hold 61 [(2, .ptrT p l), (3, .ptrT q m), (5, .val (.int .i64 c)), (6, .val (.int .i64 ((k : Nat) : Int))), (46, .val (.bool false))] w0 a' w' → Q .normal a' w') : (Code.region 9 rc9Ops false).wp Tryd.prog Q a w := by
  refine region_seq (w0 := w) 9 (by kernel_rfl) ?_
  rw [show List.range 9 = [0, 1, 2, 3, 4, 5, 6, 7, 8] from rfl]
  refine env_one (i := 0) (d := 38) (k := .val (.int .i64 ((k : Nat) : Int))) (step_move (by kernel_rfl) (Opd.of_base 6 rfl) rfl) (by kernel_rfl) (by decide) h ?_
  clear h
  intro a w h
  refine env_one (i := 1) (d := 39) (k := .ptrR l) (step_field3 (by kernel_rfl) (Opd.of_base 2 rfl) rfl) (by kernel_rfl) (by decide) h ?_
  clear h
  intro a w h
  refine env_one (i := 2) (d := 40) (k := .row l) (step_load_row (by kernel_rfl) (Opd.of_base 39 rfl) rfl) (by kernel_rfl) (by decide) h ?_
  clear h
  intro a w h
  refine env_one (i := 3) (d := 41) (k := .val (.int .i64 ((Tm.len l : Nat) : Int))) (step_len_row (by kernel_rfl) (Opd.of_base 40 rfl) rfl) (by kernel_rfl) (by decide) h ?_
  clear h
  intro a w h
  refine env_one (i := 4) (d := 42) (k := .val (.bool false)) (step_lt_int (by kernel_rfl) (Opd.of_base 38 rfl) (Opd.of_base 41 rfl) (decide_eq_false (by omega)) rfl) (by kernel_rfl) (by decide) h ?_
  clear h
  intro a w h
  refine env_one (i := 5) (d := 43) (k := .val (.bool false)) (step_move (by kernel_rfl) (Opd.of_base 42 rfl) rfl) (by kernel_rfl) (by decide) h ?_
  clear h
  intro a w h
  refine env_skip (i := 6) (d := 44) (g := 5) (dg := 43) (b := true) (by kernel_rfl) (by decide) (by kernel_rfl) rfl rfl h ?_
  clear h
  intro a w h
  refine env_skip (i := 7) (d := 45) (g := 5) (dg := 43) (b := true) (by kernel_rfl) (by decide) (by kernel_rfl) rfl rfl h ?_
  clear h
  intro a w h
  refine env_one (i := 8) (d := 46) (k := .val (.bool false)) (step_pick_no (x := .tmp 45) (by kernel_rfl) (Opd.of_base 43 rfl) (Opd.const _) rfl) (by kernel_rfl) (by decide) h ?_
  clear h
  intro a w h
  exact hQ a w (h.keep [2, 3, 5, 6, 46])
theorem rc9y_region {Q : Exit → Act → World → Prop} (p : Pay) (l : Fo) (q : Pay) (m : Fo) (c : Int) (k : Nat) (hk : k < Tm.len l) {w0 : World} {a : Act} {w : World} (h : Hold 61 [(2, .ptrT p l), (3, .ptrT q m), (5, .val (.int .i64 c)), (6, .val (.int .i64 ((k : Nat) : Int)))] w0 a w)
    (hQ : ∀ a' w', Hold 61 [(2, .ptrT p l), (3, .ptrT q m), (5, .val (.int .i64 c)), (6, .val (.int .i64 ((k : Nat) : Int))), (46, .val (.bool (c == 0)))] w0 a' w' → Q .normal a' w') : (Code.region 9 rc9Ops false).wp Tryd.prog Q a w := by
  refine region_seq (w0 := w) 9 (by kernel_rfl) ?_
  rw [show List.range 9 = [0, 1, 2, 3, 4, 5, 6, 7, 8] from rfl]
  refine env_one (i := 0) (d := 38) (k := .val (.int .i64 ((k : Nat) : Int))) (step_move (by kernel_rfl) (Opd.of_base 6 rfl) rfl) (by kernel_rfl) (by decide) h ?_
  clear h
  intro a w h
  refine env_one (i := 1) (d := 39) (k := .ptrR l) (step_field3 (by kernel_rfl) (Opd.of_base 2 rfl) rfl) (by kernel_rfl) (by decide) h ?_
  clear h
  intro a w h
  refine env_one (i := 2) (d := 40) (k := .row l) (step_load_row (by kernel_rfl) (Opd.of_base 39 rfl) rfl) (by kernel_rfl) (by decide) h ?_
  clear h
  intro a w h
  refine env_one (i := 3) (d := 41) (k := .val (.int .i64 ((Tm.len l : Nat) : Int))) (step_len_row (by kernel_rfl) (Opd.of_base 40 rfl) rfl) (by kernel_rfl) (by decide) h ?_
  clear h
  intro a w h
  refine env_one (i := 4) (d := 42) (k := .val (.bool true)) (step_lt_int (by kernel_rfl) (Opd.of_base 38 rfl) (Opd.of_base 41 rfl) (decide_eq_true (by omega)) rfl) (by kernel_rfl) (by decide) h ?_
  clear h
  intro a w h
  refine env_one (i := 5) (d := 43) (k := .val (.bool true)) (step_move (by kernel_rfl) (Opd.of_base 42 rfl) rfl) (by kernel_rfl) (by decide) h ?_
  clear h
  intro a w h
  refine env_guard (i := 6) (d := 44) (g := 5) (dg := 43) (b := true) (k := .val (.int .i64 c)) (step_move (by kernel_rfl) (Opd.of_base 5 rfl) rfl) (by kernel_rfl) (by decide) (by kernel_rfl) (by decide) rfl h ?_
  clear h
  intro a w h
  refine env_guard (i := 7) (d := 45) (g := 5) (dg := 43) (b := true) (k := .val (.bool (c == 0))) (step_eqb_int (by kernel_rfl) (Opd.of_base 44 rfl) (Opd.const _) rfl rfl) (by kernel_rfl) (by decide) (by kernel_rfl) (by decide) rfl h ?_
  clear h
  intro a w h
  refine env_one (i := 8) (d := 46) (k := .val (.bool (c == 0))) (step_pick_yes (y := .const (.bool false)) (by kernel_rfl) (Opd.of_base 43 rfl) (Opd.of_base 45 rfl) rfl) (by kernel_rfl) (by decide) h ?_
  clear h
  intro a w h
  exact hQ a w (h.keep [2, 3, 5, 6, 46])
def rc11Es (p : Pay) (l : Fo) (q : Pay) (m : Fo) (k : Nat) (p1 : Pay) (l1 r1 : Fo) (p2 : Pay) (l2 r2 : Fo) : List Kd := [
  .ptrR l,
  .row l,
  .val (.int .i64 ((k : Nat) : Int)),
  .ptrT p1 l1,
  .term p1 l1,
  .ptrR m,
  .row m,
  .val (.int .i64 ((k : Nat) : Int)),
  .ptrT p2 l2,
  .term p2 l2,
  .val (.int .i64 (Tm.cmpT p1 l1 p2 l2)),
  .val (.int .i64 (Tm.cmpT p1 l1 p2 l2))]
def rc11Ds : List Nat := [49, 50, 51, 52, 53, 54, 55, 56, 57, 58, 59, 5]
def rc11Env (p : Pay) (l : Fo) (q : Pay) (m : Fo) (k : Nat) (p1 : Pay) (l1 r1 : Fo) (p2 : Pay) (l2 r2 : Fo) : Env := [(2, .ptrT p l), (3, .ptrT q m), (6, .val (.int .i64 ((k : Nat) : Int)))]
theorem rc11_0 {Q : Exit → Act → World → Prop} (p : Pay) (l : Fo) (q : Pay) (m : Fo) (k : Nat) (p1 : Pay) (l1 r1 : Fo) (p2 : Pay) (l2 r2 : Fo) (d1 : Tm.dropF l k = .node p1 l1 r1) (d2 : Tm.dropF m k = .node p2 l2 r2) (C : CmpPair 38 p1 l1 p2 l2) : RStep rc11Ops Q (fun i => ((rc11Es p l q m k p1 l1 r1 p2 l2 r2)[i]?).getD .any) (fun i => (rc11Ds[i]?).getD (1000 + i)) (look (rc11Env p l q m k p1 l1 r1 p2 l2 r2)) 61 0 := fun _ => step_field3 (by kernel_rfl) (Opd.of_base 2 rfl) rfl
theorem rc11_1 {Q : Exit → Act → World → Prop} (p : Pay) (l : Fo) (q : Pay) (m : Fo) (k : Nat) (p1 : Pay) (l1 r1 : Fo) (p2 : Pay) (l2 r2 : Fo) (d1 : Tm.dropF l k = .node p1 l1 r1) (d2 : Tm.dropF m k = .node p2 l2 r2) (C : CmpPair 38 p1 l1 p2 l2) : RStep rc11Ops Q (fun i => ((rc11Es p l q m k p1 l1 r1 p2 l2 r2)[i]?).getD .any) (fun i => (rc11Ds[i]?).getD (1000 + i)) (look (rc11Env p l q m k p1 l1 r1 p2 l2 r2)) 61 1 := fun _ => step_load_row (by kernel_rfl) (Opd.dep 0 rfl rfl (by kernel_rfl)) rfl
theorem rc11_2 {Q : Exit → Act → World → Prop} (p : Pay) (l : Fo) (q : Pay) (m : Fo) (k : Nat) (p1 : Pay) (l1 r1 : Fo) (p2 : Pay) (l2 r2 : Fo) (d1 : Tm.dropF l k = .node p1 l1 r1) (d2 : Tm.dropF m k = .node p2 l2 r2) (C : CmpPair 38 p1 l1 p2 l2) : RStep rc11Ops Q (fun i => ((rc11Es p l q m k p1 l1 r1 p2 l2 r2)[i]?).getD .any) (fun i => (rc11Ds[i]?).getD (1000 + i)) (look (rc11Env p l q m k p1 l1 r1 p2 l2 r2)) 61 2 := fun _ => step_move (by kernel_rfl) (Opd.of_base 6 rfl) rfl
theorem rc11_3 {Q : Exit → Act → World → Prop} (p : Pay) (l : Fo) (q : Pay) (m : Fo) (k : Nat) (p1 : Pay) (l1 r1 : Fo) (p2 : Pay) (l2 r2 : Fo) (d1 : Tm.dropF l k = .node p1 l1 r1) (d2 : Tm.dropF m k = .node p2 l2 r2) (C : CmpPair 38 p1 l1 p2 l2) : RStep rc11Ops Q (fun i => ((rc11Es p l q m k p1 l1 r1 p2 l2 r2)[i]?).getD .any) (fun i => (rc11Ds[i]?).getD (1000 + i)) (look (rc11Env p l q m k p1 l1 r1 p2 l2 r2)) 61 3 := fun _ => step_row_at (k := k) (r := r1) (by kernel_rfl) (Opd.dep 1 rfl rfl (by kernel_rfl)) (Opd.dep 2 rfl rfl (by kernel_rfl)) d1 rfl
theorem rc11_4 {Q : Exit → Act → World → Prop} (p : Pay) (l : Fo) (q : Pay) (m : Fo) (k : Nat) (p1 : Pay) (l1 r1 : Fo) (p2 : Pay) (l2 r2 : Fo) (d1 : Tm.dropF l k = .node p1 l1 r1) (d2 : Tm.dropF m k = .node p2 l2 r2) (C : CmpPair 38 p1 l1 p2 l2) : RStep rc11Ops Q (fun i => ((rc11Es p l q m k p1 l1 r1 p2 l2 r2)[i]?).getD .any) (fun i => (rc11Ds[i]?).getD (1000 + i)) (look (rc11Env p l q m k p1 l1 r1 p2 l2 r2)) 61 4 := fun _ => step_load_term (by kernel_rfl) (Opd.dep 3 rfl rfl (by kernel_rfl)) rfl
theorem rc11_5 {Q : Exit → Act → World → Prop} (p : Pay) (l : Fo) (q : Pay) (m : Fo) (k : Nat) (p1 : Pay) (l1 r1 : Fo) (p2 : Pay) (l2 r2 : Fo) (d1 : Tm.dropF l k = .node p1 l1 r1) (d2 : Tm.dropF m k = .node p2 l2 r2) (C : CmpPair 38 p1 l1 p2 l2) : RStep rc11Ops Q (fun i => ((rc11Es p l q m k p1 l1 r1 p2 l2 r2)[i]?).getD .any) (fun i => (rc11Ds[i]?).getD (1000 + i)) (look (rc11Env p l q m k p1 l1 r1 p2 l2 r2)) 61 5 := fun _ => step_field3 (by kernel_rfl) (Opd.of_base 3 rfl) rfl
theorem rc11_6 {Q : Exit → Act → World → Prop} (p : Pay) (l : Fo) (q : Pay) (m : Fo) (k : Nat) (p1 : Pay) (l1 r1 : Fo) (p2 : Pay) (l2 r2 : Fo) (d1 : Tm.dropF l k = .node p1 l1 r1) (d2 : Tm.dropF m k = .node p2 l2 r2) (C : CmpPair 38 p1 l1 p2 l2) : RStep rc11Ops Q (fun i => ((rc11Es p l q m k p1 l1 r1 p2 l2 r2)[i]?).getD .any) (fun i => (rc11Ds[i]?).getD (1000 + i)) (look (rc11Env p l q m k p1 l1 r1 p2 l2 r2)) 61 6 := fun _ => step_load_row (by kernel_rfl) (Opd.dep 5 rfl rfl (by kernel_rfl)) rfl
theorem rc11_7 {Q : Exit → Act → World → Prop} (p : Pay) (l : Fo) (q : Pay) (m : Fo) (k : Nat) (p1 : Pay) (l1 r1 : Fo) (p2 : Pay) (l2 r2 : Fo) (d1 : Tm.dropF l k = .node p1 l1 r1) (d2 : Tm.dropF m k = .node p2 l2 r2) (C : CmpPair 38 p1 l1 p2 l2) : RStep rc11Ops Q (fun i => ((rc11Es p l q m k p1 l1 r1 p2 l2 r2)[i]?).getD .any) (fun i => (rc11Ds[i]?).getD (1000 + i)) (look (rc11Env p l q m k p1 l1 r1 p2 l2 r2)) 61 7 := fun _ => step_move (by kernel_rfl) (Opd.of_base 6 rfl) rfl
theorem rc11_8 {Q : Exit → Act → World → Prop} (p : Pay) (l : Fo) (q : Pay) (m : Fo) (k : Nat) (p1 : Pay) (l1 r1 : Fo) (p2 : Pay) (l2 r2 : Fo) (d1 : Tm.dropF l k = .node p1 l1 r1) (d2 : Tm.dropF m k = .node p2 l2 r2) (C : CmpPair 38 p1 l1 p2 l2) : RStep rc11Ops Q (fun i => ((rc11Es p l q m k p1 l1 r1 p2 l2 r2)[i]?).getD .any) (fun i => (rc11Ds[i]?).getD (1000 + i)) (look (rc11Env p l q m k p1 l1 r1 p2 l2 r2)) 61 8 := fun _ => step_row_at (k := k) (r := r2) (by kernel_rfl) (Opd.dep 6 rfl rfl (by kernel_rfl)) (Opd.dep 7 rfl rfl (by kernel_rfl)) d2 rfl
theorem rc11_9 {Q : Exit → Act → World → Prop} (p : Pay) (l : Fo) (q : Pay) (m : Fo) (k : Nat) (p1 : Pay) (l1 r1 : Fo) (p2 : Pay) (l2 r2 : Fo) (d1 : Tm.dropF l k = .node p1 l1 r1) (d2 : Tm.dropF m k = .node p2 l2 r2) (C : CmpPair 38 p1 l1 p2 l2) : RStep rc11Ops Q (fun i => ((rc11Es p l q m k p1 l1 r1 p2 l2 r2)[i]?).getD .any) (fun i => (rc11Ds[i]?).getD (1000 + i)) (look (rc11Env p l q m k p1 l1 r1 p2 l2 r2)) 61 9 := fun _ => step_load_term (by kernel_rfl) (Opd.dep 8 rfl rfl (by kernel_rfl)) rfl
theorem rc11_10 {Q : Exit → Act → World → Prop} (p : Pay) (l : Fo) (q : Pay) (m : Fo) (k : Nat) (p1 : Pay) (l1 r1 : Fo) (p2 : Pay) (l2 r2 : Fo) (d1 : Tm.dropF l k = .node p1 l1 r1) (d2 : Tm.dropF m k = .node p2 l2 r2) (C : CmpPair 38 p1 l1 p2 l2) : RStep rc11Ops Q (fun i => ((rc11Es p l q m k p1 l1 r1 p2 l2 r2)[i]?).getD .any) (fun i => (rc11Ds[i]?).getD (1000 + i)) (look (rc11Env p l q m k p1 l1 r1 p2 l2 r2)) 61 10 := fun _ => step_rcompare C (by kernel_rfl) (Opd.dep 4 rfl rfl (by kernel_rfl)) (Opd.dep 9 rfl rfl (by kernel_rfl)) rfl
theorem rc11_11 {Q : Exit → Act → World → Prop} (p : Pay) (l : Fo) (q : Pay) (m : Fo) (k : Nat) (p1 : Pay) (l1 r1 : Fo) (p2 : Pay) (l2 r2 : Fo) (d1 : Tm.dropF l k = .node p1 l1 r1) (d2 : Tm.dropF m k = .node p2 l2 r2) (C : CmpPair 38 p1 l1 p2 l2) : RStep rc11Ops Q (fun i => ((rc11Es p l q m k p1 l1 r1 p2 l2 r2)[i]?).getD .any) (fun i => (rc11Ds[i]?).getD (1000 + i)) (look (rc11Env p l q m k p1 l1 r1 p2 l2 r2)) 61 11 := fun _ => step_assign (by kernel_rfl) (Opd.dep 10 rfl rfl (by kernel_rfl)) rfl
theorem rc11_region {Q : Exit → Act → World → Prop} (p : Pay) (l : Fo) (q : Pay) (m : Fo) (k : Nat) (p1 : Pay) (l1 r1 : Fo) (p2 : Pay) (l2 r2 : Fo) (d1 : Tm.dropF l k = .node p1 l1 r1) (d2 : Tm.dropF m k = .node p2 l2 r2) (C : CmpPair 38 p1 l1 p2 l2) {w0 : World} {a : Act} {w : World} (h : Hold 61 [(2, .ptrT p l), (3, .ptrT q m), (6, .val (.int .i64 ((k : Nat) : Int)))] w0 a w)
    (hQ : ∀ a' w', Hold 61 [(2, .ptrT p l), (3, .ptrT q m), (5, .val (.int .i64 (Tm.cmpT p1 l1 p2 l2))), (6, .val (.int .i64 ((k : Nat) : Int)))] w0 a' w' → Q .normal a' w') : (Code.region 11 rc11Ops true).wp Tryd.prog Q a w := by
  have hall : ∀ i, i < 0 → RStep rc11Ops Q (fun i => ((rc11Es p l q m k p1 l1 r1 p2 l2 r2)[i]?).getD .any) (fun i => (rc11Ds[i]?).getD (1000 + i)) (look (rc11Env p l q m k p1 l1 r1 p2 l2 r2)) 61 i := fun i hi => absurd hi (by omega)
  have hall := below_succ hall (rc11_0 p l q m k p1 l1 r1 p2 l2 r2 d1 d2 C)
  have hall := below_succ hall (rc11_1 p l q m k p1 l1 r1 p2 l2 r2 d1 d2 C)
  have hall := below_succ hall (rc11_2 p l q m k p1 l1 r1 p2 l2 r2 d1 d2 C)
  have hall := below_succ hall (rc11_3 p l q m k p1 l1 r1 p2 l2 r2 d1 d2 C)
  have hall := below_succ hall (rc11_4 p l q m k p1 l1 r1 p2 l2 r2 d1 d2 C)
  have hall := below_succ hall (rc11_5 p l q m k p1 l1 r1 p2 l2 r2 d1 d2 C)
  have hall := below_succ hall (rc11_6 p l q m k p1 l1 r1 p2 l2 r2 d1 d2 C)
  have hall := below_succ hall (rc11_7 p l q m k p1 l1 r1 p2 l2 r2 d1 d2 C)
  have hall := below_succ hall (rc11_8 p l q m k p1 l1 r1 p2 l2 r2 d1 d2 C)
  have hall := below_succ hall (rc11_9 p l q m k p1 l1 r1 p2 l2 r2 d1 d2 C)
  have hall := below_succ hall (rc11_10 p l q m k p1 l1 r1 p2 l2 r2 d1 d2 C)
  have hall := below_succ hall (rc11_11 p l q m k p1 l1 r1 p2 l2 r2 d1 d2 C)
  refine env_any (env := rc11Env p l q m k p1 l1 r1 p2 l2 r2) (N := 61) (w0 := w0) rc11Ds (rc11Es p l q m k p1 l1 r1 p2 l2 r2) (by kernel_rfl) (by kernel_rfl) (of_decide_eq_true (by kernel_rfl)) (fun i hi => hall i (by rw [show (rc11Es p l q m k p1 l1 r1 p2 l2 r2).length = 12 by kernel_rfl] at hi; exact hi)) h fun a' w' h => ?_
  exact hQ a' w' (h.keep [2, 3, 5, 6])
theorem rc10_region {Q : Exit → Act → World → Prop} (p : Pay) (l : Fo) (q : Pay) (m : Fo) (c : Int) (k : Nat) (hk : k < 9223372036854775807) {w0 : World} {a : Act} {w : World} (h : Hold 61 [(2, .ptrT p l), (3, .ptrT q m), (5, .val (.int .i64 c)), (6, .val (.int .i64 ((k : Nat) : Int)))] w0 a w)
    (hQ : ∀ a' w', Hold 61 [(2, .ptrT p l), (3, .ptrT q m), (5, .val (.int .i64 c)), (6, .val (.int .i64 ((k + 1 : Nat) : Int)))] w0 a' w' → Q .normal a' w') : (Code.region 10 rc10Ops false).wp Tryd.prog Q a w := by
  refine region_seq (w0 := w) 3 (by kernel_rfl) ?_
  rw [show List.range 3 = [0, 1, 2] from rfl]
  refine env_one (i := 0) (d := 47) (k := .val (.int .i64 ((k : Nat) : Int))) (step_move (by kernel_rfl) (Opd.of_base 6 rfl) rfl) (by kernel_rfl) (by decide) h ?_
  clear h
  intro a w h
  refine env_one (i := 1) (d := 48) (k := .val (.int .i64 ((k + 1 : Nat) : Int))) (step_add (m := ((k : Nat) : Int)) (n := 1) (s := ((k + 1 : Nat) : Int)) (by kernel_rfl) (Opd.of_base 47 rfl) (Opd.const _) (by rw [IntKind.wrap_i64]; omega) rfl) (by kernel_rfl) (by decide) h ?_
  clear h
  intro a w h
  refine env_one (i := 2) (d := 6) (k := .val (.int .i64 ((k + 1 : Nat) : Int))) (step_assign (by kernel_rfl) (Opd.of_base 48 rfl) rfl) (by kernel_rfl) (by decide) h ?_
  clear h
  intro a w h
  exact hQ a w (h.keep [2, 3, 5, 6])
theorem rc12_region {Q : Exit → Act → World → Prop} (c : Int)  {w0 : World} {a : Act} {w : World} (h : Hold 61 [(5, .val (.int .i64 c))] w0 a w)
    (hQ : ∀ a' w', Hold 61 [(4, .val (.int .i64 c))] w0 a' w' → Q .normal a' w') : (Code.region 12 rc12Ops false).wp Tryd.prog Q a w := by
  refine region_seq (w0 := w) 2 (by kernel_rfl) ?_
  rw [show List.range 2 = [0, 1] from rfl]
  refine env_one (i := 0) (d := 60) (k := .val (.int .i64 c)) (step_move (by kernel_rfl) (Opd.of_base 5 rfl) rfl) (by kernel_rfl) (by decide) h ?_
  clear h
  intro a w h
  refine env_one (i := 1) (d := 4) (k := .val (.int .i64 c)) (step_assign (by kernel_rfl) (Opd.of_base 60 rfl) rfl) (by kernel_rfl) (by decide) h ?_
  clear h
  intro a w h
  exact hQ a w (h.keep [4])

theorem rc_loop (p : Pay) (l : Fo) (q : Pay) (m : Fo) (hl : Tm.len l < 9223372036854775807) (res : Int)
    (IH : ∀ k p1 l1 r1 p2 l2 r2, Tm.dropF l k = .node p1 l1 r1 → Tm.dropF m k = .node p2 l2 r2 → CmpPair 38 p1 l1 p2 l2) {R : Ending → World → Prop} {w0 : World} (hR : ∀ w, Below w0.heap.size w0 w → R (.returned (.int .i64 res)) w)
    (c : Int) (hc : c = 0 → Tm.len l = Tm.len m) (hres : res = Tm.lex c (Tm.cmpF l m)) {a : Act} {w : World} (h : Hold 61 [(2, .ptrT p l), (3, .ptrT q m), (5, .val (.int .i64 c)), (6, .val (.int .i64 0))] w0 a w) :
    (Code.block 0 (.loop (.seq (.seq (.region 9 rc9Ops false) (.cond (.tmp 46) .skip (.exit 0))) (.seq (.block 1 (.region 11 rc11Ops true)) (.region 10 rc10Ops false))))).wp Tryd.prog (Exit.then ((Code.seq (.region 12 rc12Ops false) .ret).wp Tryd.prog (bodyPost Tryd.prog Tryd.f38 R)) (bodyPost Tryd.prog Tryd.f38 R)) a w := by
  have fin : ∀ a w, Hold 61 [(5, .val (.int .i64 res))] w0 a w → (Code.seq (.region 12 rc12Ops false) .ret).wp Tryd.prog (bodyPost Tryd.prog Tryd.f38 R) a w := by
    intro a w h
    refine wp_seq ?_
    refine rc12_region res h ?_
    intro a w h
    refine wp_ret ?_
    exact law_out rfl (h.get 4 rfl) h.defers (hR w h.world)
  refine wp_block ?_
  refine wp_for (n := Tm.len l) (fun k a w => ∃ c, Hold 61 [(2, .ptrT p l), (3, .ptrT q m), (5, .val (.int .i64 c)), (6, .val (.int .i64 ((k : Nat) : Int)))] w0 a w ∧ (c = 0 → Tm.len l = Tm.len m) ∧ k ≤ Tm.len l ∧ res = Tm.lex c (Tm.cmpF (Tm.dropF l k) (Tm.dropF m k))) ⟨c, h, hc, Nat.zero_le _, by rw [Tm.drop_zero, Tm.drop_zero]; exact hres⟩ ?_ ?_
  · rintro k a w hk ⟨c, h, hc, _, hres⟩
    refine wp_seq ?_
    refine wp_seq ?_
    refine rc9y_region p l q m c k hk h ?_
    intro a w h
    by_cases h0 : c = 0
    · subst h0
      refine env_cond (b := true) rfl (h : Hold 61 [(2, .ptrT p l), (3, .ptrT q m), (5, .val (.int .i64 0)), (6, .val (.int .i64 ((k : Nat) : Int))), (46, .val (.bool true))] w0 a w) ?_
      refine wp_skip ?_
      have h := h.keep [2, 3, 6]
      have hlm := hc rfl
      obtain ⟨p1, l1, r1, d1⟩ := Tm.drop_at (F := l) (k := k) hk
      obtain ⟨p2, l2, r2, d2⟩ := Tm.drop_at (F := m) (k := k) (by omega)
      show Code.wp _ _ _ a w
      refine wp_seq ?_
      refine wp_block ?_
      refine rc11_region p l q m k p1 l1 r1 p2 l2 r2 d1 d2 (IH k p1 l1 r1 p2 l2 r2 d1 d2) h ?_
      intro a w h
      show Code.wp _ _ _ a w
      refine rc10_region p l q m _ k (by omega) h ?_
      intro a w h
      refine ⟨_, h, fun _ => hlm, hk, ?_⟩
      rw [hres, d1, d2, Tm.cmpF_cons, Tm.drop_succ d1, Tm.drop_succ d2]
      rfl
    · have hb : (c == 0) = false := by simpa using h0
      rw [hb] at h
      refine env_cond (b := false) rfl h ?_
      refine wp_exit ?_
      refine fin a w ?_
      have : res = c := by rw [hres]; unfold Tm.lex; rw [if_neg h0]
      rw [this]
      exact h.keep [5]
  · rintro a w ⟨c, h, hc, _, hres⟩
    refine wp_seq ?_
    refine wp_seq ?_
    refine rc9n_region p l q m c (Tm.len l) (by omega) h ?_
    intro a w h
    refine env_cond (b := false) rfl h ?_
    refine wp_exit ?_
    refine fin a w ?_
    have : res = c := by
      rw [hres]
      unfold Tm.lex
      by_cases h0 : c = 0
      · rw [if_pos h0, h0, Tm.drop_end l, show Tm.dropF m (Tm.len l) = .nil by rw [hc h0]; exact Tm.drop_end m]; rfl
      · rw [if_neg h0]
    rw [this]
    exact h.keep [5]

theorem rc_head (p : Pay) (l : Fo) (q : Pay) (m : Fo) (A A' : Option Addr) (c c' : Nat) (w : World) (hA : ArgsB w w.heap.size A (Tm.len l) l) (hA' : ArgsB w w.heap.size A' (Tm.len m) m) (n1 : p.2.2.size ≤ 100) (n2 : q.2.2.size ≤ 100) (hl : Tm.len l < 9223372036854775807)
    (IH : ∀ k p1 l1 r1 p2 l2 r2, Tm.dropF l k = .node p1 l1 r1 → Tm.dropF m k = .node p2 l2 r2 → CmpPair 38 p1 l1 p2 l2) :
    Calls Tryd.prog 38 #[tv p A (Tm.len l) c, tv q A' (Tm.len m) c'] w fun e w' => e = .returned (.int .i64 (Tm.cmpT p l q m)) ∧ Below w.heap.size w w' := by
  refine calls_of_wp Tryd.func38 rc_body ?_
  obtain ⟨v0, hv0⟩ : ∃ v : Value, v = tv p A (Tm.len l) c := ⟨_, rfl⟩
  obtain ⟨v1, hv1⟩ : ∃ v : Value, v = tv q A' (Tm.len m) c' := ⟨_, rfl⟩
  rw [← hv0, ← hv1]
  have hk0 : (Kd.term p l).R v0 w := ⟨A, c, hv0, hA⟩
  have hk1 : (Kd.term q m).R v1 w := ⟨A', c', hv1, hA'⟩
  have hs : (#[v0, v1] ++ Array.replicate (Tryd.f38.ntmps - #[v0, v1].size) undef : Array Value).size = 61 := by kernel_rfl
  have gs0 : (#[v0, v1] ++ Array.replicate (Tryd.f38.ntmps - #[v0, v1].size) undef : Array Value).getD 0 undef = v0 := by kernel_rfl
  have gs1 : (#[v0, v1] ++ Array.replicate (Tryd.f38.ntmps - #[v0, v1].size) undef : Array Value).getD 1 undef = v1 := by kernel_rfl
  generalize (#[v0, v1] ++ Array.replicate (Tryd.f38.ntmps - #[v0, v1].size) undef : Array Value) = tm at hs gs0 gs1 ⊢
  refine wp_seq ?_
  refine rc0_region p l q m (w0 := w) ⟨hs, rfl, Below.refl _ _, (slots_cons 0 (by rw [gs0]; exact hk0) (slots_cons 1 (by rw [gs1]; exact hk1) slots_nil))⟩ ?_
  intro a w1 h
  show Code.wp _ _ _ a w1
  refine wp_seq ?_
  refine wp_seq ?_
  refine rc1_region p l q m h ?_
  intro a w1 h
  show Code.wp _ _ _ a w1
  by_cases hk : p.1 = q.1
  · have hb : (p.1 != q.1) = false := by simpa using hk
    rw [hb] at h
    refine env_cond (b := false) rfl h ?_
    refine wp_skip ?_
    have h := h.keep [2, 3, 4]
    show Code.wp _ _ _ a w1
    refine wp_seq ?_
    refine rc3_region p l q m h ?_
    intro a w1 h
    show Code.wp _ _ _ a w1
    have hT : Tm.cmpT p l q m = Tm.lex (Tm.lex (Tm.cmpI p.2.1 q.2.1) (Tm.lex (Tm.cmpI (Tm.len l) (Tm.len m)) (Tm.cmpS p.2.2 q.2.2))) (Tm.cmpF l m) := by
      unfold Tm.cmpT Tm.headC
      rw [(Tm.cmpI_zero _ _).2 hk]
      rfl
    rw [hT]
    have hz := Tm.cmpI_zero (Tm.len l) (Tm.len m)
    clear hT
    generalize Tm.cmpI p.2.1 q.2.1 = x at h ⊢
    generalize hy : Tm.cmpI (Tm.len l) (Tm.len m) = y at hz ⊢
    generalize hu : Tm.cmpS p.2.2 q.2.2 = u at ⊢
    refine wp_seq ?_
    refine wp_seq ?_
    refine rc4_region p l q m x h ?_
    intro a w1 h
    have next : ∀ (a : Act) (w1 : World) (x y : Int), (x = 0 → (y = 0 ↔ (Tm.len l : Int) = Tm.len m)) → Hold 61 [(2, .ptrT p l), (3, .ptrT q m), (4, .val (.int .i64 0)), (5, .val (.int .i64 (Tm.lex x y)))] w a w1 →
        (Code.seq (.seq (.region 6 rc6Ops false) (.cond (.tmp 32) (.region 7 rc7Ops false) .skip)) (.seq (.seq (.region 8 rc8Ops false) (.block 0 (.loop (.seq (.seq (.region 9 rc9Ops false) (.cond (.tmp 46) .skip (.exit 0))) (.seq (.block 1 (.region 11 rc11Ops true)) (.region 10 rc10Ops false)))))) (.seq (.region 12 rc12Ops false) .ret))).wp Tryd.prog (bodyPost Tryd.prog Tryd.f38 fun e w' => e = .returned (.int .i64 (Tm.lex (Tm.lex x (Tm.lex y u)) (Tm.cmpF l m))) ∧ Below w.heap.size w w') a w1 := by
      intro a w1 x y hyz h
      have last : ∀ (a : Act) (w1 : World) (c : Int), (c = 0 → Tm.len l = Tm.len m) → c = Tm.lex x (Tm.lex y u) → Hold 61 [(2, .ptrT p l), (3, .ptrT q m), (4, .val (.int .i64 0)), (5, .val (.int .i64 c))] w a w1 →
          (Code.seq (.seq (.region 8 rc8Ops false) (.block 0 (.loop (.seq (.seq (.region 9 rc9Ops false) (.cond (.tmp 46) .skip (.exit 0))) (.seq (.block 1 (.region 11 rc11Ops true)) (.region 10 rc10Ops false)))))) (.seq (.region 12 rc12Ops false) .ret)).wp Tryd.prog (bodyPost Tryd.prog Tryd.f38 fun e w' => e = .returned (.int .i64 (Tm.lex (Tm.lex x (Tm.lex y u)) (Tm.cmpF l m))) ∧ Below w.heap.size w w') a w1 := by
        intro a w1 c hc he h
        refine wp_seq ?_
        refine wp_seq ?_
        refine rc8_region p l q m c h ?_
        intro a w1 h
        exact rc_loop p l q m hl _ IH (fun w1 hb => ⟨rfl, hb⟩) c hc (by rw [he]) h
      refine wp_seq ?_
      refine wp_seq ?_
      refine rc6_region p l q m (Tm.lex x y) h ?_
      intro a w1 h
      by_cases h0 : Tm.lex x y = 0
      · have hb : (Tm.lex x y == 0) = true := by simpa using h0
        rw [hb] at h
        refine env_cond (b := true) rfl h ?_
        have h := h.keep [2, 3, 4, 5]
        show Code.wp _ _ _ a w1
        refine rc7_region p l q m (Tm.lex x y) n1 n2 h ?_
        intro a w1 h
        rw [hu] at h
        obtain ⟨hx0, hy0⟩ := Tm.lex_zero.1 h0
        refine last a w1 u (fun _ => by have := (hyz hx0).1 hy0; omega) ?_ h
        unfold Tm.lex
        rw [if_pos hx0, if_pos hy0]
      · have hb : (Tm.lex x y == 0) = false := by simpa using h0
        rw [hb] at h
        refine env_cond (b := false) rfl h ?_
        refine wp_skip ?_
        have h := h.keep [2, 3, 4, 5]
        refine last a w1 (Tm.lex x y) (fun e => absurd e h0) ?_ h
        revert h0
        unfold Tm.lex
        intro h0
        by_cases hx0 : x = 0
        · rw [if_pos hx0] at h0
          rw [if_pos hx0, if_pos hx0, if_neg h0]
        · rw [if_neg hx0, if_neg hx0]
    by_cases hx0 : x = 0
    · subst hx0
      refine env_cond (b := true) rfl (h : Hold 61 [(2, .ptrT p l), (3, .ptrT q m), (4, .val (.int .i64 0)), (5, .val (.int .i64 0)), (23, .val (.bool true))] w a w1) ?_
      have h := h.keep [2, 3, 4, 5]
      show Code.wp _ _ _ a w1
      refine rc5_region p l q m 0 h ?_
      intro a w1 h
      rw [hy] at h
      exact next a w1 0 y (fun _ => hz) h
    · have hb : (x == 0) = false := by simpa using hx0
      rw [hb] at h
      refine env_cond (b := false) rfl h ?_
      refine wp_skip ?_
      have h := h.keep [2, 3, 4, 5]
      refine next a w1 x y (fun e => absurd e hx0) ?_
      rw [show Tm.lex x y = x by unfold Tm.lex; rw [if_neg hx0]]
      exact h
  · have hb : (p.1 != q.1) = true := by simpa using hk
    rw [hb] at h
    refine env_cond (b := true) rfl h ?_
    have h := h.keep [2, 3, 4]
    show Code.wp _ _ _ a w1
    refine wp_seq ?_
    refine rc2_region p l q m h ?_
    intro a w1 h
    refine wp_ret ?_
    (try simp only [then_ret, block_ret])
    refine law_out rfl (h.get 4 rfl) h.defers ⟨?_, h.world⟩
    have : Tm.cmpI p.1 q.1 ≠ 0 := fun e => hk ((Tm.cmpI_zero _ _).1 e)
    unfold Tm.cmpT Tm.headC Tm.lex
    rw [if_neg this, if_neg this]
theorem rcompare_up (m : Nat) : ∀ (p : Pay) (l : Fo) (p' : Pay) (l' : Fo), Tm.size l < m → Tm.goodB p l = true → Tm.goodB p' l' = true → CmpPair 38 p l p' l' := by
  induction m with
  | zero => intro p l p' l' hm; omega
  | succ m ih =>
    intro p l p' l' hm hg hg' A A' c c' w hA hA'
    have hl : Tm.allB l = true := by unfold Tm.goodB at hg; rw [Bool.and_eq_true] at hg; exact hg.2
    have hl' : Tm.allB l' = true := by unfold Tm.goodB at hg'; rw [Bool.and_eq_true] at hg'; exact hg'.2
    refine rc_head p l p' l' A A' c c' w hA hA' (Tm.name_size hg) (Tm.name_size hg') (Tm.len_small hg) ?_
    intro k p1 l1 r1 p2 l2 r2 d1 d2
    refine ih p1 l1 p2 l2 ?_ (Tm.allB_node (by rw [← d1]; exact Tm.allB_drop hl k)).1 (Tm.allB_node (by rw [← d2]; exact Tm.allB_drop hl' k)).1
    have := Tm.size_drop_le l k
    rw [d1] at this
    simp only [Tm.size] at this
    omega
theorem rcompare_any (p : Pay) (l : Fo) (A : Option Addr) (c : Nat) (p' : Pay) (l' : Fo) (A' : Option Addr) (c' B : Nat) (w : World) (hg : Tm.goodB p l = true) (hg' : Tm.goodB p' l' = true) (hA : ArgsB w B A (Tm.len l) l) (hA' : ArgsB w B A' (Tm.len l') l') (hB : B ≤ w.heap.size) :
    Calls Tryd.prog 38 #[tv p A (Tm.len l) c, tv p' A' (Tm.len l') c'] w fun e w' => e = .returned (.int .i64 (Tm.cmpT p l p' l')) ∧ Below w.heap.size w w' :=
  rcompare_up (Tm.size l + 1) p l p' l' (by omega) hg hg' A A' c c' w (hA.up hB) (hA'.up hB)
end Go.Proofs.YtcjakmafojbhlaaDoor
namespace Go.Proofs.YtcjakmafojbhlaaDoor
set_option linter.unusedVariables false
set_option linter.unusedSimpArgs false
open Go.RowKit
theorem Tm.good_of {p : Pay} {l : Fo} (h : Tm.validB p l = true) : Tm.goodB p l = true := by unfold Tm.validB at h; rw [Bool.and_eq_true] at h; exact h.2
/-- Cmp's answer. -/
def Tm.cmpV (p : Pay) (l : Fo) (q : Pay) (m : Fo) : Int := if Tm.validB p l && Tm.validB q m then Tm.cmpT p l q m else 0
section
variable {ops : Array Oper} {Q : Exit → Act → World → Prop} {E : Nat → Kd} {D : Nat → Nat} {base : Nat → Option Kd} {N : Nat}
theorem step_ocompare {i : Nat} {x y : Operand} {p p' : Pay} {l l' : Fo} (hg : Tm.goodB p l = true) (hg' : Tm.goodB p' l' = true) (tt : Nat) (hop : (ops[i]?).map (·.op) = some (.call { callee := .value (.func 37), args := #[x, y], argTypes := #[24, 24] })) (hx : Opd ops E D base N i x (.term p l)) (hy : Opd ops E D base N i y (.term p' l')) (ht : Opd ops E D base N i (.tmp tt) .tabs) (hE : E i = .val (.int .i64 (Tm.cmpT p l p' l'))) : Step Tryd.prog ops Q E D base N i :=
  step_call hop (fun _ _ => by kernel_rfl) fun a w h => by
    obtain ⟨A, c, ex, ha⟩ := hx a w h
    obtain ⟨A', c', ey, ha'⟩ := hy a w h
    have hT : Tabs w := ht a w h
    rw [show (#[x, y] : Array Operand).map a.eval = #[tv p A (Tm.len l) c, tv p' A' (Tm.len l') c'] by rw [← ex, ← ey]; simp, hE]
    exact below_R (compare_any p l A c p' l' A' c' w.heap.size w hg hg' ha ha' (Nat.le_refl _) hT)
end
noncomputable def om0Ops : Array Oper := ((Tryd.f12.body).bind (findReg 0)).getD #[]
noncomputable def om1Ops : Array Oper := ((Tryd.f12.body).bind (findReg 1)).getD #[]
noncomputable def om2Ops : Array Oper := ((Tryd.f12.body).bind (findReg 2)).getD #[]
noncomputable def om3Ops : Array Oper := ((Tryd.f12.body).bind (findReg 3)).getD #[]
theorem om_body : Tryd.f12.body = some (.seq (.region 0 om0Ops false) (.seq (.seq (.region 1 om1Ops false) (.cond (.tmp 12) (.seq (.region 2 om2Ops false) .ret) .skip)) (.seq (.region 3 om3Ops false) .ret))) := by kernel_rfl
theorem om0_region {Q : Exit → Act → World → Prop} (p : Pay) (l : Fo) (q : Pay) (m : Fo)  {w0 : World} {a : Act} {w : World} (h : Hold 16 [(0, .term p l), (1, .term q m), (999, .tabs)] w0 a w)
    (hQ : ∀ a' w', Hold 16 [(2, .ptrT p l), (3, .ptrT q m), (4, .val (.int .i64 0)), (999, .tabs)] w0 a' w' → Q .normal a' w') : (Code.region 0 om0Ops false).wp Tryd.prog Q a w := by
  refine region_seq (w0 := w) 3 (by kernel_rfl) ?_
  rw [show List.range 3 = [0, 1, 2] from rfl]
  refine env_one (i := 0) (d := 2) (k := .ptrT p l) (step_box (by kernel_rfl) (Opd.of_base 0 rfl) rfl) (by kernel_rfl) (by decide) h ?_
  clear h
  intro a w h
  refine env_one (i := 1) (d := 3) (k := .ptrT q m) (step_box (by kernel_rfl) (Opd.of_base 1 rfl) rfl) (by kernel_rfl) (by decide) h ?_
  clear h
  intro a w h
  refine env_one (i := 2) (d := 4) (k := .val (.int .i64 0)) (step_assign (by kernel_rfl) (Opd.const _) rfl) (by kernel_rfl) (by decide) h ?_
  clear h
  intro a w h
  exact hQ a w (h.keep [2, 3, 4, 999])
theorem om1n_region {Q : Exit → Act → World → Prop} (p : Pay) (l : Fo) (q : Pay) (m : Fo) (hv : Tm.validB p l = false) {w0 : World} {a : Act} {w : World} (h : Hold 16 [(2, .ptrT p l), (3, .ptrT q m), (4, .val (.int .i64 0)), (999, .tabs)] w0 a w)
    (hQ : ∀ a' w', Hold 16 [(12, .val (.bool true))] w0 a' w' → Q .normal a' w') : (Code.region 1 om1Ops false).wp Tryd.prog Q a w := by
  refine region_seq (w0 := w) 8 (by kernel_rfl) ?_
  rw [show List.range 8 = [0, 1, 2, 3, 4, 5, 6, 7] from rfl]
  refine env_one (i := 0) (d := 5) (k := .term p l) (step_load_term (by kernel_rfl) (Opd.of_base 2 rfl) rfl) (by kernel_rfl) (by decide) h ?_
  clear h
  intro a w h
  refine env_one (i := 1) (d := 6) (k := .val (.bool false)) (step_valid (by kernel_rfl) (Opd.of_base 5 rfl) hv rfl) (by kernel_rfl) (by decide) h ?_
  clear h
  intro a w h
  refine env_one (i := 2) (d := 7) (k := .val (.bool true)) (step_not (by kernel_rfl) (Opd.of_base 6 rfl) rfl) (by kernel_rfl) (by decide) h ?_
  clear h
  intro a w h
  refine env_one (i := 3) (d := 8) (k := .val (.bool true)) (step_move (by kernel_rfl) (Opd.of_base 7 rfl) rfl) (by kernel_rfl) (by decide) h ?_
  clear h
  intro a w h
  refine env_skip (i := 4) (d := 9) (g := 3) (dg := 8) (b := false) (by kernel_rfl) (by decide) (by kernel_rfl) rfl rfl h ?_
  clear h
  intro a w h
  refine env_skip (i := 5) (d := 10) (g := 3) (dg := 8) (b := false) (by kernel_rfl) (by decide) (by kernel_rfl) rfl rfl h ?_
  clear h
  intro a w h
  refine env_skip (i := 6) (d := 11) (g := 3) (dg := 8) (b := false) (by kernel_rfl) (by decide) (by kernel_rfl) rfl rfl h ?_
  clear h
  intro a w h
  refine env_one (i := 7) (d := 12) (k := .val (.bool true)) (step_pick_yes (y := .tmp 11) (by kernel_rfl) (Opd.of_base 8 rfl) (Opd.const _) rfl) (by kernel_rfl) (by decide) h ?_
  clear h
  intro a w h
  exact hQ a w (h.keep [12])
theorem om1y_region {Q : Exit → Act → World → Prop} (p : Pay) (l : Fo) (q : Pay) (m : Fo) (hv : Tm.validB p l = true) {w0 : World} {a : Act} {w : World} (h : Hold 16 [(2, .ptrT p l), (3, .ptrT q m), (4, .val (.int .i64 0)), (999, .tabs)] w0 a w)
    (hQ : ∀ a' w', Hold 16 [(2, .ptrT p l), (3, .ptrT q m), (4, .val (.int .i64 0)), (12, .val (.bool (!(Tm.validB q m)))), (999, .tabs)] w0 a' w' → Q .normal a' w') : (Code.region 1 om1Ops false).wp Tryd.prog Q a w := by
  refine region_seq (w0 := w) 8 (by kernel_rfl) ?_
  rw [show List.range 8 = [0, 1, 2, 3, 4, 5, 6, 7] from rfl]
  refine env_one (i := 0) (d := 5) (k := .term p l) (step_load_term (by kernel_rfl) (Opd.of_base 2 rfl) rfl) (by kernel_rfl) (by decide) h ?_
  clear h
  intro a w h
  refine env_one (i := 1) (d := 6) (k := .val (.bool true)) (step_valid (by kernel_rfl) (Opd.of_base 5 rfl) hv rfl) (by kernel_rfl) (by decide) h ?_
  clear h
  intro a w h
  refine env_one (i := 2) (d := 7) (k := .val (.bool false)) (step_not (by kernel_rfl) (Opd.of_base 6 rfl) rfl) (by kernel_rfl) (by decide) h ?_
  clear h
  intro a w h
  refine env_one (i := 3) (d := 8) (k := .val (.bool false)) (step_move (by kernel_rfl) (Opd.of_base 7 rfl) rfl) (by kernel_rfl) (by decide) h ?_
  clear h
  intro a w h
  refine env_guard (i := 4) (d := 9) (g := 3) (dg := 8) (b := false) (k := .term q m) (step_load_term (by kernel_rfl) (Opd.of_base 3 rfl) rfl) (by kernel_rfl) (by decide) (by kernel_rfl) (by decide) rfl h ?_
  clear h
  intro a w h
  refine env_guard (i := 5) (d := 10) (g := 3) (dg := 8) (b := false) (k := .val (.bool (Tm.validB q m))) (step_valid (by kernel_rfl) (Opd.of_base 9 rfl) rfl rfl) (by kernel_rfl) (by decide) (by kernel_rfl) (by decide) rfl h ?_
  clear h
  intro a w h
  refine env_guard (i := 6) (d := 11) (g := 3) (dg := 8) (b := false) (k := .val (.bool (!(Tm.validB q m)))) (step_not (by kernel_rfl) (Opd.of_base 10 rfl) rfl) (by kernel_rfl) (by decide) (by kernel_rfl) (by decide) rfl h ?_
  clear h
  intro a w h
  refine env_one (i := 7) (d := 12) (k := .val (.bool (!(Tm.validB q m)))) (step_pick_no (x := .const (.bool true)) (by kernel_rfl) (Opd.of_base 8 rfl) (Opd.of_base 11 rfl) rfl) (by kernel_rfl) (by decide) h ?_
  clear h
  intro a w h
  exact hQ a w (h.keep [2, 3, 4, 12, 999])
theorem om2_region {Q : Exit → Act → World → Prop} (p : Pay) (l : Fo) (q : Pay) (m : Fo)  {w0 : World} {a : Act} {w : World} (h : Hold 16 [] w0 a w)
    (hQ : ∀ a' w', Hold 16 [(4, .val (.int .i64 0))] w0 a' w' → Q .normal a' w') : (Code.region 2 om2Ops false).wp Tryd.prog Q a w := by
  refine region_seq (w0 := w) 1 (by kernel_rfl) ?_
  rw [show List.range 1 = [0] from rfl]
  refine env_one (i := 0) (d := 4) (k := .val (.int .i64 0)) (step_assign (by kernel_rfl) (Opd.const _) rfl) (by kernel_rfl) (by decide) h ?_
  clear h
  intro a w h
  exact hQ a w (h.keep [4])
theorem om3_region {Q : Exit → Act → World → Prop} (p : Pay) (l : Fo) (q : Pay) (m : Fo) (hg : Tm.goodB p l = true) (hg' : Tm.goodB q m = true) {w0 : World} {a : Act} {w : World} (h : Hold 16 [(2, .ptrT p l), (3, .ptrT q m), (4, .val (.int .i64 0)), (999, .tabs)] w0 a w)
    (hQ : ∀ a' w', Hold 16 [(4, .val (.int .i64 (Tm.cmpT p l q m)))] w0 a' w' → Q .normal a' w') : (Code.region 3 om3Ops false).wp Tryd.prog Q a w := by
  refine region_seq (w0 := w) 4 (by kernel_rfl) ?_
  rw [show List.range 4 = [0, 1, 2, 3] from rfl]
  refine env_one (i := 0) (d := 13) (k := .term p l) (step_load_term (by kernel_rfl) (Opd.of_base 2 rfl) rfl) (by kernel_rfl) (by decide) h ?_
  clear h
  intro a w h
  refine env_one (i := 1) (d := 14) (k := .term q m) (step_load_term (by kernel_rfl) (Opd.of_base 3 rfl) rfl) (by kernel_rfl) (by decide) h ?_
  clear h
  intro a w h
  refine env_one (i := 2) (d := 15) (k := .val (.int .i64 (Tm.cmpT p l q m))) (step_ocompare hg hg' 999 (by kernel_rfl) (Opd.of_base 13 rfl) (Opd.of_base 14 rfl) (Opd.of_base 999 rfl) rfl) (by kernel_rfl) (by decide) h ?_
  clear h
  intro a w h
  refine env_one (i := 3) (d := 4) (k := .val (.int .i64 (Tm.cmpT p l q m))) (step_assign (by kernel_rfl) (Opd.of_base 15 rfl) rfl) (by kernel_rfl) (by decide) h ?_
  clear h
  intro a w h
  exact hQ a w (h.keep [4])
theorem cmp_any (p : Pay) (l : Fo) (A : Option Addr) (c : Nat) (q : Pay) (m : Fo) (A' : Option Addr) (c' B : Nat) (w : World) (hA : ArgsB w B A (Tm.len l) l) (hA' : ArgsB w B A' (Tm.len m) m) (hB : B ≤ w.heap.size) (hT : Tabs w) :
    Calls Tryd.prog 12 #[tv p A (Tm.len l) c, tv q A' (Tm.len m) c'] w fun e w' => e = .returned (.int .i64 (Tm.cmpV p l q m)) ∧ Below w.heap.size w w' := by
  refine calls_of_wp Tryd.func12 om_body ?_
  obtain ⟨v0, hv0⟩ : ∃ v : Value, v = tv p A (Tm.len l) c := ⟨_, rfl⟩
  obtain ⟨v1, hv1⟩ : ∃ v : Value, v = tv q A' (Tm.len m) c' := ⟨_, rfl⟩
  rw [← hv0, ← hv1]
  have hk0 : (Kd.term p l).R v0 w := ⟨A, c, hv0, hA.up hB⟩
  have hk1 : (Kd.term q m).R v1 w := ⟨A', c', hv1, hA'.up hB⟩
  have hs : (#[v0, v1] ++ Array.replicate (Tryd.f12.ntmps - #[v0, v1].size) undef : Array Value).size = 16 := by kernel_rfl
  have gs0 : (#[v0, v1] ++ Array.replicate (Tryd.f12.ntmps - #[v0, v1].size) undef : Array Value).getD 0 undef = v0 := by kernel_rfl
  have gs1 : (#[v0, v1] ++ Array.replicate (Tryd.f12.ntmps - #[v0, v1].size) undef : Array Value).getD 1 undef = v1 := by kernel_rfl
  generalize (#[v0, v1] ++ Array.replicate (Tryd.f12.ntmps - #[v0, v1].size) undef : Array Value) = tm at hs gs0 gs1 ⊢
  refine wp_seq ?_
  refine om0_region p l q m (w0 := w) ⟨hs, rfl, Below.refl _ _, (slots_cons 0 (by rw [gs0]; exact hk0) (slots_cons 1 (by rw [gs1]; exact hk1) (slots_cons 999 (k0 := .tabs) hT slots_nil)))⟩ ?_
  intro a w1 h
  show Code.wp _ _ _ a w1
  refine wp_seq ?_
  refine wp_seq ?_
  unfold Tm.cmpV
  cases hv : Tm.validB p l
  · refine om1n_region p l q m hv h ?_
    intro a w1 h
    refine env_cond (b := true) rfl h ?_
    show Code.wp _ _ _ a w1
    refine wp_seq ?_
    refine om2_region p l q m (h.keep []) ?_
    intro a w1 h
    refine wp_ret ?_
    (try simp only [then_ret, block_ret])
    refine law_out rfl (h.get 4 rfl) h.defers ⟨rfl, h.world⟩
  · refine om1y_region p l q m hv h ?_
    intro a w1 h
    cases hv' : Tm.validB q m
    · rw [hv'] at h
      refine env_cond (b := true) rfl h ?_
      show Code.wp _ _ _ a w1
      refine wp_seq ?_
      refine om2_region p l q m (h.keep []) ?_
      intro a w1 h
      refine wp_ret ?_
      (try simp only [then_ret, block_ret])
      refine law_out rfl (h.get 4 rfl) h.defers ⟨rfl, h.world⟩
    · rw [hv'] at h
      refine env_cond (b := false) rfl h ?_
      refine wp_skip ?_
      show Code.wp _ _ _ a w1
      refine wp_seq ?_
      refine om3_region p l q m (Tm.good_of hv) (Tm.good_of hv') (h.keep [2, 3, 4, 999]) ?_
      intro a w1 h
      refine wp_ret ?_
      (try simp only [then_ret, block_ret])
      refine law_out rfl (h.get 4 rfl) h.defers ⟨rfl, h.world⟩
noncomputable def rm0Ops : Array Oper := ((Tryd.f13.body).bind (findReg 0)).getD #[]
noncomputable def rm1Ops : Array Oper := ((Tryd.f13.body).bind (findReg 1)).getD #[]
noncomputable def rm2Ops : Array Oper := ((Tryd.f13.body).bind (findReg 2)).getD #[]
noncomputable def rm3Ops : Array Oper := ((Tryd.f13.body).bind (findReg 3)).getD #[]
theorem rm_body : Tryd.f13.body = some (.seq (.region 0 rm0Ops false) (.seq (.seq (.region 1 rm1Ops false) (.cond (.tmp 12) (.seq (.region 2 rm2Ops false) .ret) .skip)) (.seq (.region 3 rm3Ops false) .ret))) := by kernel_rfl
theorem rm0_region {Q : Exit → Act → World → Prop} (p : Pay) (l : Fo) (q : Pay) (m : Fo)  {w0 : World} {a : Act} {w : World} (h : Hold 16 [(0, .term p l), (1, .term q m)] w0 a w)
    (hQ : ∀ a' w', Hold 16 [(2, .ptrT p l), (3, .ptrT q m), (4, .val (.int .i64 0))] w0 a' w' → Q .normal a' w') : (Code.region 0 rm0Ops false).wp Tryd.prog Q a w := by
  refine region_seq (w0 := w) 3 (by kernel_rfl) ?_
  rw [show List.range 3 = [0, 1, 2] from rfl]
  refine env_one (i := 0) (d := 2) (k := .ptrT p l) (step_box (by kernel_rfl) (Opd.of_base 0 rfl) rfl) (by kernel_rfl) (by decide) h ?_
  clear h
  intro a w h
  refine env_one (i := 1) (d := 3) (k := .ptrT q m) (step_box (by kernel_rfl) (Opd.of_base 1 rfl) rfl) (by kernel_rfl) (by decide) h ?_
  clear h
  intro a w h
  refine env_one (i := 2) (d := 4) (k := .val (.int .i64 0)) (step_assign (by kernel_rfl) (Opd.const _) rfl) (by kernel_rfl) (by decide) h ?_
  clear h
  intro a w h
  exact hQ a w (h.keep [2, 3, 4])
theorem rm1n_region {Q : Exit → Act → World → Prop} (p : Pay) (l : Fo) (q : Pay) (m : Fo) (hv : Tm.validB p l = false) {w0 : World} {a : Act} {w : World} (h : Hold 16 [(2, .ptrT p l), (3, .ptrT q m), (4, .val (.int .i64 0))] w0 a w)
    (hQ : ∀ a' w', Hold 16 [(12, .val (.bool true))] w0 a' w' → Q .normal a' w') : (Code.region 1 rm1Ops false).wp Tryd.prog Q a w := by
  refine region_seq (w0 := w) 8 (by kernel_rfl) ?_
  rw [show List.range 8 = [0, 1, 2, 3, 4, 5, 6, 7] from rfl]
  refine env_one (i := 0) (d := 5) (k := .term p l) (step_load_term (by kernel_rfl) (Opd.of_base 2 rfl) rfl) (by kernel_rfl) (by decide) h ?_
  clear h
  intro a w h
  refine env_one (i := 1) (d := 6) (k := .val (.bool false)) (step_rvalid (by kernel_rfl) (Opd.of_base 5 rfl) hv rfl) (by kernel_rfl) (by decide) h ?_
  clear h
  intro a w h
  refine env_one (i := 2) (d := 7) (k := .val (.bool true)) (step_not (by kernel_rfl) (Opd.of_base 6 rfl) rfl) (by kernel_rfl) (by decide) h ?_
  clear h
  intro a w h
  refine env_one (i := 3) (d := 8) (k := .val (.bool true)) (step_move (by kernel_rfl) (Opd.of_base 7 rfl) rfl) (by kernel_rfl) (by decide) h ?_
  clear h
  intro a w h
  refine env_skip (i := 4) (d := 9) (g := 3) (dg := 8) (b := false) (by kernel_rfl) (by decide) (by kernel_rfl) rfl rfl h ?_
  clear h
  intro a w h
  refine env_skip (i := 5) (d := 10) (g := 3) (dg := 8) (b := false) (by kernel_rfl) (by decide) (by kernel_rfl) rfl rfl h ?_
  clear h
  intro a w h
  refine env_skip (i := 6) (d := 11) (g := 3) (dg := 8) (b := false) (by kernel_rfl) (by decide) (by kernel_rfl) rfl rfl h ?_
  clear h
  intro a w h
  refine env_one (i := 7) (d := 12) (k := .val (.bool true)) (step_pick_yes (y := .tmp 11) (by kernel_rfl) (Opd.of_base 8 rfl) (Opd.const _) rfl) (by kernel_rfl) (by decide) h ?_
  clear h
  intro a w h
  exact hQ a w (h.keep [12])
theorem rm1y_region {Q : Exit → Act → World → Prop} (p : Pay) (l : Fo) (q : Pay) (m : Fo) (hv : Tm.validB p l = true) {w0 : World} {a : Act} {w : World} (h : Hold 16 [(2, .ptrT p l), (3, .ptrT q m), (4, .val (.int .i64 0))] w0 a w)
    (hQ : ∀ a' w', Hold 16 [(2, .ptrT p l), (3, .ptrT q m), (4, .val (.int .i64 0)), (12, .val (.bool (!(Tm.validB q m))))] w0 a' w' → Q .normal a' w') : (Code.region 1 rm1Ops false).wp Tryd.prog Q a w := by
  refine region_seq (w0 := w) 8 (by kernel_rfl) ?_
  rw [show List.range 8 = [0, 1, 2, 3, 4, 5, 6, 7] from rfl]
  refine env_one (i := 0) (d := 5) (k := .term p l) (step_load_term (by kernel_rfl) (Opd.of_base 2 rfl) rfl) (by kernel_rfl) (by decide) h ?_
  clear h
  intro a w h
  refine env_one (i := 1) (d := 6) (k := .val (.bool true)) (step_rvalid (by kernel_rfl) (Opd.of_base 5 rfl) hv rfl) (by kernel_rfl) (by decide) h ?_
  clear h
  intro a w h
  refine env_one (i := 2) (d := 7) (k := .val (.bool false)) (step_not (by kernel_rfl) (Opd.of_base 6 rfl) rfl) (by kernel_rfl) (by decide) h ?_
  clear h
  intro a w h
  refine env_one (i := 3) (d := 8) (k := .val (.bool false)) (step_move (by kernel_rfl) (Opd.of_base 7 rfl) rfl) (by kernel_rfl) (by decide) h ?_
  clear h
  intro a w h
  refine env_guard (i := 4) (d := 9) (g := 3) (dg := 8) (b := false) (k := .term q m) (step_load_term (by kernel_rfl) (Opd.of_base 3 rfl) rfl) (by kernel_rfl) (by decide) (by kernel_rfl) (by decide) rfl h ?_
  clear h
  intro a w h
  refine env_guard (i := 5) (d := 10) (g := 3) (dg := 8) (b := false) (k := .val (.bool (Tm.validB q m))) (step_rvalid (by kernel_rfl) (Opd.of_base 9 rfl) rfl rfl) (by kernel_rfl) (by decide) (by kernel_rfl) (by decide) rfl h ?_
  clear h
  intro a w h
  refine env_guard (i := 6) (d := 11) (g := 3) (dg := 8) (b := false) (k := .val (.bool (!(Tm.validB q m)))) (step_not (by kernel_rfl) (Opd.of_base 10 rfl) rfl) (by kernel_rfl) (by decide) (by kernel_rfl) (by decide) rfl h ?_
  clear h
  intro a w h
  refine env_one (i := 7) (d := 12) (k := .val (.bool (!(Tm.validB q m)))) (step_pick_no (x := .const (.bool true)) (by kernel_rfl) (Opd.of_base 8 rfl) (Opd.of_base 11 rfl) rfl) (by kernel_rfl) (by decide) h ?_
  clear h
  intro a w h
  exact hQ a w (h.keep [2, 3, 4, 12])
theorem rm2_region {Q : Exit → Act → World → Prop} (p : Pay) (l : Fo) (q : Pay) (m : Fo)  {w0 : World} {a : Act} {w : World} (h : Hold 16 [] w0 a w)
    (hQ : ∀ a' w', Hold 16 [(4, .val (.int .i64 0))] w0 a' w' → Q .normal a' w') : (Code.region 2 rm2Ops false).wp Tryd.prog Q a w := by
  refine region_seq (w0 := w) 1 (by kernel_rfl) ?_
  rw [show List.range 1 = [0] from rfl]
  refine env_one (i := 0) (d := 4) (k := .val (.int .i64 0)) (step_assign (by kernel_rfl) (Opd.const _) rfl) (by kernel_rfl) (by decide) h ?_
  clear h
  intro a w h
  exact hQ a w (h.keep [4])
theorem rm3_region {Q : Exit → Act → World → Prop} (p : Pay) (l : Fo) (q : Pay) (m : Fo) (hg : Tm.goodB p l = true) (hg' : Tm.goodB q m = true) {w0 : World} {a : Act} {w : World} (h : Hold 16 [(2, .ptrT p l), (3, .ptrT q m), (4, .val (.int .i64 0))] w0 a w)
    (hQ : ∀ a' w', Hold 16 [(4, .val (.int .i64 (Tm.cmpT p l q m)))] w0 a' w' → Q .normal a' w') : (Code.region 3 rm3Ops false).wp Tryd.prog Q a w := by
  refine region_seq (w0 := w) 4 (by kernel_rfl) ?_
  rw [show List.range 4 = [0, 1, 2, 3] from rfl]
  refine env_one (i := 0) (d := 13) (k := .term p l) (step_load_term (by kernel_rfl) (Opd.of_base 2 rfl) rfl) (by kernel_rfl) (by decide) h ?_
  clear h
  intro a w h
  refine env_one (i := 1) (d := 14) (k := .term q m) (step_load_term (by kernel_rfl) (Opd.of_base 3 rfl) rfl) (by kernel_rfl) (by decide) h ?_
  clear h
  intro a w h
  refine env_one (i := 2) (d := 15) (k := .val (.int .i64 (Tm.cmpT p l q m))) (step_rcompare (rcompare_up _ _ _ _ _ (Nat.lt_succ_self _) hg hg') (by kernel_rfl) (Opd.of_base 13 rfl) (Opd.of_base 14 rfl) rfl) (by kernel_rfl) (by decide) h ?_
  clear h
  intro a w h
  refine env_one (i := 3) (d := 4) (k := .val (.int .i64 (Tm.cmpT p l q m))) (step_assign (by kernel_rfl) (Opd.of_base 15 rfl) rfl) (by kernel_rfl) (by decide) h ?_
  clear h
  intro a w h
  exact hQ a w (h.keep [4])
theorem rcmp_any (p : Pay) (l : Fo) (A : Option Addr) (c : Nat) (q : Pay) (m : Fo) (A' : Option Addr) (c' B : Nat) (w : World) (hA : ArgsB w B A (Tm.len l) l) (hA' : ArgsB w B A' (Tm.len m) m) (hB : B ≤ w.heap.size) :
    Calls Tryd.prog 13 #[tv p A (Tm.len l) c, tv q A' (Tm.len m) c'] w fun e w' => e = .returned (.int .i64 (Tm.cmpV p l q m)) ∧ Below w.heap.size w w' := by
  refine calls_of_wp Tryd.func13 rm_body ?_
  obtain ⟨v0, hv0⟩ : ∃ v : Value, v = tv p A (Tm.len l) c := ⟨_, rfl⟩
  obtain ⟨v1, hv1⟩ : ∃ v : Value, v = tv q A' (Tm.len m) c' := ⟨_, rfl⟩
  rw [← hv0, ← hv1]
  have hk0 : (Kd.term p l).R v0 w := ⟨A, c, hv0, hA.up hB⟩
  have hk1 : (Kd.term q m).R v1 w := ⟨A', c', hv1, hA'.up hB⟩
  have hs : (#[v0, v1] ++ Array.replicate (Tryd.f13.ntmps - #[v0, v1].size) undef : Array Value).size = 16 := by kernel_rfl
  have gs0 : (#[v0, v1] ++ Array.replicate (Tryd.f13.ntmps - #[v0, v1].size) undef : Array Value).getD 0 undef = v0 := by kernel_rfl
  have gs1 : (#[v0, v1] ++ Array.replicate (Tryd.f13.ntmps - #[v0, v1].size) undef : Array Value).getD 1 undef = v1 := by kernel_rfl
  generalize (#[v0, v1] ++ Array.replicate (Tryd.f13.ntmps - #[v0, v1].size) undef : Array Value) = tm at hs gs0 gs1 ⊢
  refine wp_seq ?_
  refine rm0_region p l q m (w0 := w) ⟨hs, rfl, Below.refl _ _, (slots_cons 0 (by rw [gs0]; exact hk0) (slots_cons 1 (by rw [gs1]; exact hk1) slots_nil))⟩ ?_
  intro a w1 h
  show Code.wp _ _ _ a w1
  refine wp_seq ?_
  refine wp_seq ?_
  unfold Tm.cmpV
  cases hv : Tm.validB p l
  · refine rm1n_region p l q m hv h ?_
    intro a w1 h
    refine env_cond (b := true) rfl h ?_
    show Code.wp _ _ _ a w1
    refine wp_seq ?_
    refine rm2_region p l q m (h.keep []) ?_
    intro a w1 h
    refine wp_ret ?_
    (try simp only [then_ret, block_ret])
    refine law_out rfl (h.get 4 rfl) h.defers ⟨rfl, h.world⟩
  · refine rm1y_region p l q m hv h ?_
    intro a w1 h
    cases hv' : Tm.validB q m
    · rw [hv'] at h
      refine env_cond (b := true) rfl h ?_
      show Code.wp _ _ _ a w1
      refine wp_seq ?_
      refine rm2_region p l q m (h.keep []) ?_
      intro a w1 h
      refine wp_ret ?_
      (try simp only [then_ret, block_ret])
      refine law_out rfl (h.get 4 rfl) h.defers ⟨rfl, h.world⟩
    · rw [hv'] at h
      refine env_cond (b := false) rfl h ?_
      refine wp_skip ?_
      show Code.wp _ _ _ a w1
      refine wp_seq ?_
      refine rm3_region p l q m (Tm.good_of hv) (Tm.good_of hv') (h.keep [2, 3, 4]) ?_
      intro a w1 h
      refine wp_ret ?_
      (try simp only [then_ret, block_ret])
      refine law_out rfl (h.get 4 rfl) h.defers ⟨rfl, h.world⟩
end Go.Proofs.YtcjakmafojbhlaaDoor
