/-
  An operator against a class and a name, one operator, one behind another: compare, isValid and mayFollow of package ops; one and before of the reference.
-/
import Derived.Test.YtgbfkchjcjdnnaaDoorSmall7
import Derived.Deep.RegionWith
import Derived.BigRegion
namespace Go.Proofs.YtgbfkchjcjdnnaaDoor
set_option linter.unusedVariables false
set_option linter.unusedSimpArgs false
open Go.RowKit Q

/-- A world that has all the blocks of w. -/
structure Bw (w : World) where
  to : World
  ok : Below w.heap.size w to
instance (w : World) : Inhabited (Bw w) := ⟨⟨w, Below.refl _ _⟩⟩
theorem wp_region_bw {P : Program} {id : Nat} {Q : Exit → Act → World → Prop} {a : Act} {w : World} {l : List Oper} (hm : P.follows .mixedOrders = true) (hB : Region.lexB .any l.toArray = true)
    (h : wpQuiet P l.toArray (fun w' => ∃ p : Bw w, w' = p.to) (fun a' => ∀ w', (∃ p : Bw w, w' = p.to) → Q .normal a' w') l a) : (Code.region id l.toArray true).wp P Q a w :=
  wp_region_quiet (C := fun w' => ∃ p : Bw w, w' = p.to) hm hB ⟨⟨{ w with drawn := w.drawn + 1 }, rfl, rfl, rfl, Nat.le_refl _, fun _ _ => rfl⟩, rfl⟩ (by simpa using h)
theorem cell_bw {w : World} {a : Addr} {v : Value} (hb : a.block < w.heap.size) (h : w.cell? a = some v) (p : Bw w) : p.to.cell? a = some v := (p.ok.cell hb).trans h
theorem calls_bw {P : Program} {f : FuncId} {args : Array Value} {w : World} {p : Bw w} {v : Value} (h : Calls P f args p.to fun e w' => e = .returned v ∧ Below p.to.heap.size p.to w') :
    Calls P f args p.to fun e w'' => e = .returned v ∧ ∃ q : Bw w, w'' = q.to :=
  h.mono fun _ w' ⟨he, hb⟩ => ⟨he, ⟨w', p.ok.trans (hb.mono p.ok.size)⟩, rfl⟩
theorem same_below {P : Program} {f : FuncId} {args : Array Value} {w : World} {v : Value} (h : Calls P f args w fun e w' => e = .returned v ∧ w = w') : Calls P f args w fun e w' => e = .returned v ∧ Below w.heap.size w w' :=
  h.mono fun _ _ ⟨he, hw⟩ => ⟨he, hw ▸ Below.refl _ _⟩

theorem cell_new (q : World) (vs : Array Value) (t : TypeId) (i : Nat) : (q.alloc (.cells vs t)).cell? ⟨q.heap.size, i, none⟩ = vs[i]? := by rw [World.cell?_alloc_at _ _ _ _ rfl]
/-- The value of an operator. -/
def opV (e : Ent) : Value := .agg #[.string e.1, .int .i64 e.2.1, .int .i64 e.2.2]

theorem or_two (b : Nat) (x y : Int) (w : World) (h0 : w.cell? ⟨b, 0, none⟩ = some (.int .i64 x)) (h1 : w.cell? ⟨b, 1, none⟩ = some (.int .i64 y)) :
    Calls Tryd.prog 58 #[.slice (some ⟨b, 0, none⟩) 2 2] w fun e w' => e = .returned (.int .i64 (Tm.lex x y)) ∧ w = w' := by
  unfold Tm.lex
  by_cases hx : x = 0
  · rw [if_pos hx]
    subst hx
    by_cases hy : y = 0
    · subst hy
      go_enter Tryd.func58, Tryd.ntmps58
      go_wp2_with fail
      refine wp_loop_rounds 3 ?_
      rw [rounds_succ]
      go_wp2_with fail
      rw [rounds_succ]
      go_wp2_with fail
      rw [rounds_succ]
      go_wp2_with fail
      go_ret
      exact ⟨rfl, rfl⟩
    · have hyb : (y == 0) = false := by simpa using hy
      go_enter Tryd.func58, Tryd.ntmps58
      go_wp2_with fail
      refine wp_loop_rounds 2 ?_
      rw [rounds_succ]
      go_wp2_with fail
      rw [rounds_succ]
      go_wp2_with fail
      go_ret
      exact ⟨rfl, rfl⟩
  · rw [if_neg hx]
    have hxb : (x == 0) = false := by simpa using hx
    go_enter Tryd.func58, Tryd.ntmps58
    go_wp2_with fail
    refine wp_loop_rounds 1 ?_
    rw [rounds_succ]
    go_wp2_with fail
    go_ret
    exact ⟨rfl, rfl⟩

set_option maxHeartbeats 2000000 in
theorem compare_any (e : Ent) (nm : ByteArray) (c : Int) (w : World) (hT : Tabs w) :
    Calls Tryd.prog 54 #[opV e, .string nm, .int .i64 c] w fun e' w' => e' = .returned (.int .i64 (cmpE e nm c)) ∧ Below w.heap.size w w' := by
  obtain ⟨s, t, p⟩ := e
  have HT := Lib.hid hT
  clear hT
  obtain ⟨v, hv⟩ : ∃ v, v = cmpE (s, t, p) nm c := ⟨_, rfl⟩
  obtain ⟨x, hx⟩ : ∃ x, x = Tm.cmpS s nm := ⟨_, rfl⟩
  obtain ⟨d, hd⟩ : ∃ d, d = cls t := ⟨_, rfl⟩
  obtain ⟨y, hy⟩ : ∃ y, y = Tm.cmpI d c := ⟨_, rfl⟩
  have e0 : v = Tm.lex x y := by rw [hv, hx, hy, hd]; rfl
  rw [← hv]
  have C1 : ∀ q : World, Calls Tryd.prog 59 #[.string s, .string nm] q fun e w' => e = .returned (.int .i64 x) ∧ q = w' := fun q => by rw [hx]; exact compareString s nm q
  have C3 : ∀ q : World, Calls Tryd.prog 60 #[.int .i64 d, .int .i64 c] q fun e w' => e = .returned (.int .i64 y) ∧ q = w' := fun q => by rw [hy]; exact compareInt d c q
  have C2 : ∀ q : World, Tabs q → Calls Tryd.prog 36 #[.int .i64 t] q fun e w' => e = .returned (.int .i64 d) ∧ q = w' := fun q hq => by rw [hd]; exact class_any t q hq
  have C4 : ∀ (b : Nat) (q : World), q.cell? ⟨b, 0, none⟩ = some (.int .i64 x) → q.cell? ⟨b, 1, none⟩ = some (.int .i64 y) → Calls Tryd.prog 58 #[.slice (some ⟨b, 0, none⟩) 2 2] q fun e w' => e = .returned (.int .i64 v) ∧ q = w' := fun b q h0 h1 => by rw [e0]; exact or_two b x y q h0 h1
  have H1 := Lib.hid C1
  have H2 := Lib.hid C2
  have H3 := Lib.hid C3
  have H4 := Lib.hid C4
  clear hv hx hd hy e0 C1 C2 C3 C4
  unfold opV
  go_enter Tryd.func54, Tryd.ntmps54
  go_wp2_with fail
  have c0 : (w.alloc (.cells #[.string s, .int .i64 t, .int .i64 p] 26)).cell? ⟨w.heap.size, 0, none⟩ = some (.string s) := by rw [World.cell?_alloc_at _ _ _ _ rfl]; rfl
  have c1 : (w.alloc (.cells #[.string s, .int .i64 t, .int .i64 p] 26)).cell? ⟨w.heap.size, 1, none⟩ = some (.int .i64 t) := by rw [World.cell?_alloc_at _ _ _ _ rfl]; rfl
  have hTW := HT.out.below ((Below.refl _ _).alloc (Nat.le_refl _) (.cells #[.string s, .int .i64 t, .int .i64 p] 26))
  have hBW := (Below.refl w.heap.size w).alloc (Nat.le_refl _) (.cells #[.string s, .int .i64 t, .int .i64 p] 26)
  generalize hW : w.alloc (.cells #[.string s, .int .i64 t, .int .i64 p] 26) = W at c0 c1 hTW hBW ⊢
  generalize hg : w.heap.size = g at c0 c1 hBW ⊢
  have HTW := Lib.hid hTW
  have HBW := Lib.hid hBW
  have HG := Lib.hid hg
  have H5 : Hid (∀ q, Calls Tryd.prog 58 #[.slice (some ⟨W.heap.size, 0, none⟩) 2 2] ((W.drewN q).alloc (.cells #[.int .i64 x, .int .i64 y] 3)) fun e w' => e = .returned (.int .i64 v) ∧ (W.drewN q).alloc (.cells #[.int .i64 x, .int .i64 y] 3) = w') := fun q =>
    H4.out _ _ (cell_new (W.drewN q) _ _ 0) (cell_new (W.drewN q) _ _ 1)
  clear hTW hBW hW hg HT H4
  go_region_with (first
    | (refine (H1.out _).mono ?_; rintro e w' ⟨rfl, rfl⟩)
    | (refine (H3.out _).mono ?_; rintro e w' ⟨rfl, rfl⟩)
    | (refine (H2.out _ (HTW.out.drewN _)).mono ?_; rintro e w' ⟨rfl, rfl⟩)
    | (refine (H2.out _ (HTW.out.below (Below.refl _ _).drew)).mono ?_; rintro e w' ⟨rfl, rfl⟩)
    | (refine (H5.out _).mono ?_; rintro e w' ⟨rfl, rfl⟩))
  all_goals
    go_wp2_with fail
    go_ret
    refine ⟨rfl, ?_⟩
    rw [HG.out]
    exact HBW.out.trans (((below_drewN (Below.refl W.heap.size W) 1).alloc (Nat.le_refl _) _).mono (HG.out ▸ HBW.out.size))
end Go.Proofs.YtgbfkchjcjdnnaaDoor
