/-
  A map of function values that a call makes: which name leads to which plain function; a store into it and a look-up, at the operation.
-/
import Derived.Test.YtlajghpikilkgaaDoorFns
namespace Go.Proofs.YtlajghpikilkgaaDoor
set_option linter.unusedVariables false
set_option linter.unusedSimpArgs false
open Go.RowKit
open Go.Maps (Keyed IsMap)

/-- How an element reads: as itself. -/
def Rv (v : Value) : Option (DataW Value × List MemPlace) := some (.held v, [])
theorem keyed : Keyed Tryd.prog 9 := Go.Maps.string_keyed Tryd.underlying9

/-- What a table of names holds. -/
abbrev Spec (X : Type) := List (List UInt8 × X)

structure Inv {X : Type} (G : World → Value → X → Prop) (B n : Nat) (spec : Spec X) (w : World) (D : DataW Value) : Prop where
  owns : w.ownsMap Tryd.prog 9 Rv B n D
  isMap : IsMap D
  reads : ∀ s : List UInt8, (∃ x v, spec.lookup s = some x ∧ (∀ z, D.atKey (.string s) z = .held v) ∧ Maps.has D (.string s) = true ∧ G w v x) ∨ (spec.lookup s = none ∧ Maps.has D (.string s) = false)

/-- What is good stays good while nothing but block B turns. -/
def Stable {X : Type} (B : Nat) (G : World → Value → X → Prop) : Prop := ∀ (w w' : World) (v : Value) (x : X), Kept B w w' → G w v x → G w' v x

/-- The table in its making: 'w0' is the world when the call began. -/
def St {X : Type} (G : World → Value → X → Prop) (w0 : World) (n : Nat) (spec : Spec X) (w : World) : Prop :=
  (∃ D, Inv G w0.heap.size n spec w D) ∧ Below w0.heap.size w0 w ∧ w0.heap.size < w.heap.size

section
variable {X : Type} {G : World → Value → X → Prop} {w0 : World} {n : Nat} {spec : Spec X} {w : World}

theorem St.start (w0 : World) : St G w0 0 [] (w0.alloc (.map #[] 0)) :=
  ⟨⟨.map [], World.ownsMap_made w0 _ _ _, Go.Maps.isMap_empty, fun s => .inr ⟨rfl, rfl⟩⟩, below_alloc _ _, by simp⟩

theorem St.call (hG : Stable w0.heap.size G) (h : St G w0 n spec w) {w' : World} (hb : Below w.heap.size w w') : St G w0 n spec w' := by
  obtain ⟨⟨D, hI⟩, h1, h2⟩ := h
  refine ⟨⟨D, ?_, hI.isMap, fun s => ?_⟩, h1.trans (hb.mono h1.size), Nat.lt_of_lt_of_le h2 hb.size⟩
  · obtain ⟨es, clock, hh, r⟩ := hI.owns
    exact ⟨es, clock, (hb.block _ h2).trans hh, r⟩
  · rcases hI.reads s with ⟨x, v, a, b, c, d⟩ | h
    · exact .inl ⟨x, v, a, b, c, hG _ _ _ _ (Kept.of_below hb) d⟩
    · exact .inr h

theorem St.insert (hG : Stable w0.heap.size G) (h : St G w0 n spec w) {t e : TypeId} (ht : Tryd.prog.underlying t = some (.map 9 e)) (hn : n < 1000) (key : ByteArray) (hk : key.size ≤ 1000) (v : Value) (x : X) (hv : G w v x) :
    ∃ w', (Instr.mapUpdate t (.map (some w0.heap.size)) (.string key) v).run Tryd.prog w = .ok () w' ∧ St G w0 (n + 1) ((key.data.toList, x) :: spec) w' := by
  obtain ⟨⟨D, hI⟩, h1, h2⟩ := h
  have hkey : keyOf Tryd.prog 9 (.string key) = some (.string key.data.toList) := Go.WideMaps.keyOf_string_mk Tryd.underlying9 (by unfold maxLen; omega)
  obtain ⟨w', hrun, hown, hgrow⟩ := hI.owns.update keyed ht (by unfold maxLen; omega) (d := .held v) (ps := []) hkey rfl
  have hkp : Kept w0.heap.size w w' := Kept.of_grown hgrow
  refine ⟨w', hrun, ⟨_, hown, hI.isMap.put _ _, fun s => ?_⟩, h1.grown hgrow h1.size (fun j hj => by cases hj; exact Nat.le_refl _), Nat.lt_of_lt_of_le h2 hgrow.size⟩
  by_cases hs : s = key.data.toList
  · refine .inl ⟨x, v, ?_, fun z => ?_, ?_, hG _ _ _ _ hkp hv⟩
    · simp [List.lookup, hs]
    · rw [hs]; exact Go.Maps.atKey_put_same hI.isMap (keyed.key hkey) _ _
    · rw [hs]; exact Go.Maps.has_put_same hI.isMap (keyed.key hkey) _
  · have hne : (Lit.string s) ≠ Lit.string key.data.toList := fun e => hs (by injection e)
    have hl : List.lookup s ((key.data.toList, x) :: spec) = spec.lookup s := by
      simp only [List.lookup, beq_eq_false_iff_ne.2 hs]
    rcases hI.reads s with ⟨x', v', a, b, c, d⟩ | ⟨a, b⟩
    · exact .inl ⟨x', v', hl.trans a, fun z => (Go.Maps.atKey_put_other hne _ _).trans (b z), (Go.Maps.has_put_other hne _).trans c, hG _ _ _ _ hkp d⟩
    · exact .inr ⟨hl.trans a, (Go.Maps.has_put_other hne _).trans b⟩
end

/-- The look-up of a name: the value, and whether there is one. -/
theorem St.look {X : Type} {G : World → Value → X → Prop} {w0 : World} {n : Nat} {spec : Spec X} {w : World} (hS : St G w0 n spec w) {t e : TypeId} (ht : Tryd.prog.underlying t = some (.map 9 e)) (hz : (zeroValue e).run Tryd.prog w = .ok .nilFunc w)
    (key : ByteArray) (hk : key.size ≤ 9223372036854775807) :
    (∃ f v, spec.lookup key.data.toList = some f ∧ G w v f ∧ (Instr.lookup t (.map (some w0.heap.size)) (.string key) true).run Tryd.prog w = .ok (.tuple #[v, .bool true]) w) ∨
    (∃ v, spec.lookup key.data.toList = none ∧ (Instr.lookup t (.map (some w0.heap.size)) (.string key) true).run Tryd.prog w = .ok (.tuple #[v, .bool false]) w) := by
  obtain ⟨⟨D, hI⟩, _, _⟩ := hS
  have hkey : keyOf Tryd.prog 9 (.string key) = some (.string key.data.toList) := Go.WideMaps.keyOf_string_mk Tryd.underlying9 (by unfold maxLen; omega)
  obtain ⟨v, ps, hrun, hv⟩ := hI.owns.look_ok keyed ht hz (zd := .held .nilFunc) (zp := []) rfl hkey
  rcases hI.reads key.data.toList with ⟨f, v', h1, h2, h3, h4⟩ | ⟨h1, h2⟩
  · rw [h2] at hv
    have e : v = v' := by simp [Rv] at hv; exact hv.1
    subst e
    rw [h3] at hrun
    exact .inl ⟨f, v, h1, h4, hrun⟩
  · rw [h2] at hrun
    exact .inr ⟨v, h1, hrun⟩

/-- A function value of two numbers that is good for every two integers of the range. -/
def G2 (B : Nat) (w : World) (v : Value) (F : Int → Int → Int × Int) : Prop := ∃ g cap, v = .func (.func g) #[] cap ∧ Sem2 B w g cap (fun _ _ => True) F
theorem stable2 (B : Nat) : Stable B (G2 B) := by
  rintro w w' v x hk ⟨g, cap, rfl, h⟩
  exact ⟨g, cap, rfl, h.kept hk⟩
end Go.Proofs.YtlajghpikilkgaaDoor
