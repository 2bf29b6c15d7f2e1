/-
  A term rebuilt with something in place of each variable: package term's rebuilt, for whatever function it is handed.
-/
import Derived.Test.YtapcnehpechkpaaSames
import Derived.Laws.MakeOwn
namespace Go.Proofs.Ytapcnehpechkpaa
set_option linter.unusedVariables false
set_option linter.unusedSimpArgs false
set_option maxRecDepth 100000
open Go.RowKit

namespace Tm
/-- Each variable of a row, from left to right, gives way to what f returns for it; the state goes along. -/
def reb {σ : Type} (f : σ → Int → σ × Pay × Fo) : σ → Fo → σ × Fo
  | s, .nil => (s, .nil)
  | s, .node p l r =>
    if p.1 = 0 then ((reb f (f s p.2.1).1 r).1, .node (f s p.2.1).2.1 (f s p.2.1).2.2 (reb f (f s p.2.1).1 r).2)
    else ((reb f (reb f s l).1 r).1, .node p (reb f s l).2 (reb f (reb f s l).1 r).2)
/-- The same of one term. -/
def rebT {σ : Type} (f : σ → Int → σ × Pay × Fo) (s : σ) (p : Pay) (l : Fo) : σ × Pay × Fo :=
  if p.1 = 0 then f s p.2.1 else ((reb f s l).1, p, (reb f s l).2)
theorem reb_cons {σ : Type} (f : σ → Int → σ × Pay × Fo) (s : σ) (p : Pay) (l r : Fo) : reb f s (.node p l r) = ((reb f (rebT f s p l).1 r).1, .node (rebT f s p l).2.1 (rebT f s p l).2.2 (reb f (rebT f s p l).1 r).2) := by
  unfold rebT
  by_cases h : p.1 = 0
  · rw [reb, if_pos h, if_pos h]
  · rw [reb, if_neg h, if_neg h]
theorem reb_len {σ : Type} (f : σ → Int → σ × Pay × Fo) (F : Fo) : ∀ s, len (reb f s F).2 = len F := by
  induction F with
  | nil => intro s; rfl
  | node p l r _ ih => intro s; rw [reb_cons]; simp only [len, ih]
end Tm

/-- What a function value of one variable is good for: it returns what f says, in the memory that may lie below B or be new, and turns no block but those of X. -/
structure OfSpec {σ : Type} (f : σ → Int → σ × Pay × Fo) (g : Nat) (cap : Array Value) (B Bo Bx : Nat) (X : Nat → Prop) (Inv : σ → World → Prop) : Prop where
  enters : ∀ (args : Array Value) (w : World), (callFunc g args).run Try.prog w = .ok (.enter g args) w
  lo : B ≤ Bx
  lo2 : Bo ≤ B
  own : ∀ k, X k → B ≤ k ∧ k < Bx
  keeps : ∀ (s : σ) (w w' : World), Inv s w → w.heap.size ≤ w'.heap.size → (∀ k, k < Bx → w'.heap[k]? = w.heap[k]?) → Inv s w'
  gives : ∀ (s : σ) (v : Int) (w : World), Inv s w → Bx ≤ w.heap.size → 0 ≤ v → v ≤ 1099511627776 → Calls Try.prog g (#[.int .i64 v] ++ cap) w fun e w' =>
    ∃ A c, e = .returned (tv (f s v).2.1 A (Tm.len (f s v).2.2) c) ∧ ArgsIn (fun b => (b < Bo ∨ w.heap.size ≤ b) ∧ b < w'.heap.size) w' A (Tm.len (f s v).2.2) (f s v).2.2 ∧ Inv (f s v).1 w' ∧ Only X w w'

/-- A block of a term of its own, that can be written. -/
structure SoftAt (w : World) (b : Nat) : Prop where
  s0 : w.frozen? ⟨b, 0, none⟩ = false
  s1 : w.frozen? ⟨b, 1, none⟩ = false
  s2 : w.frozen? ⟨b, 2, none⟩ = false
  s3 : w.frozen? ⟨b, 3, none⟩ = false
theorem SoftAt.new (w : World) (cs : Array Value) (t : TypeId) : SoftAt (w.alloc (.cells cs t)) w.heap.size := by
  have h := alloc_new w (.cells cs t)
  constructor <;> (unfold World.frozen?; rw [h]; rfl)
theorem SoftAt.same {w w' : World} {b : Nat} (h : SoftAt w b) (hk : w'.heap[b]? = w.heap[b]?) : SoftAt w' b :=
  ⟨(frozen_of_block (p := ⟨b, 0, none⟩) hk).trans h.s0, (frozen_of_block (p := ⟨b, 1, none⟩) hk).trans h.s1, (frozen_of_block (p := ⟨b, 2, none⟩) hk).trans h.s2, (frozen_of_block (p := ⟨b, 3, none⟩) hk).trans h.s3⟩
theorem TermAt.same {w w' : World} {b : Nat} {p : Pay} {A : Option Addr} {n c : Nat} (h : TermAt w b p A n c) (hk : w'.heap[b]? = w.heap[b]?) : TermAt w' b p A n c :=
  ⟨(cell_of_block (p := ⟨b, 0, none⟩) hk).trans h.kind, (cell_of_block (p := ⟨b, 1, none⟩) hk).trans h.num, (cell_of_block (p := ⟨b, 2, none⟩) hk).trans h.name, (cell_of_block (p := ⟨b, 3, none⟩) hk).trans h.args⟩
/-- Four cells of a row, set. -/
abbrev set4 (w : World) (b o : Nat) (p : Pay) (A : Option Addr) (n c : Nat) : World :=
  (((w.setCell ⟨b, o, none⟩ (.int .i64 p.1)).setCell ⟨b, o + 1, none⟩ (.int .i64 p.2.1)).setCell ⟨b, o + 2, none⟩ (.string p.2.2)).setCell ⟨b, o + 3, none⟩ (.slice A n c)
theorem set4_block (w : World) (b o : Nat) (p : Pay) (A : Option Addr) (n c k : Nat) (h : k ≠ b) : (set4 w b o p A n c).heap[k]? = w.heap[k]? := by
  unfold set4
  rw [Below.heap_setCell _ ⟨b, o + 3, none⟩ _ _ h, Below.heap_setCell _ ⟨b, o + 2, none⟩ _ _ h, Below.heap_setCell _ ⟨b, o + 1, none⟩ _ _ h, Below.heap_setCell _ ⟨b, o, none⟩ _ _ h]
theorem set4_size (w : World) (b o : Nat) (p : Pay) (A : Option Addr) (n c : Nat) : (set4 w b o p A n c).heap.size = w.heap.size := by simp [set4, World.setCell]
theorem set4_only {X : Nat → Prop} {a w : World} (b o : Nat) (p : Pay) (A : Option Addr) (n c : Nat) (h : Only X a w) (hb : a.heap.size ≤ b) : Only X a (set4 w b o p A n c) :=
  ⟨h.os, h.tape, h.output, by rw [set4_size]; exact h.size, fun k hk hx => (set4_block w b o p A n c k (by omega)).trans (h.block k hk hx)⟩
theorem set4_frozen (w : World) (b o : Nat) (p : Pay) (A : Option Addr) (n c : Nat) (x : Addr) : (set4 w b o p A n c).frozen? x = w.frozen? x := by
  unfold set4
  rw [World.frozen?_setCell, World.frozen?_setCell, World.frozen?_setCell, World.frozen?_setCell]
theorem addr_ne {b i j : Nat} (h : i ≠ j) : (⟨b, i, none⟩ : Addr) ≠ ⟨b, j, none⟩ := by intro e; injection e; contradiction
/-- Four cells that are there. -/
structure Four (w : World) (b o : Nat) : Prop where
  c0 : (w.cell? ⟨b, o, none⟩).isSome = true
  c1 : (w.cell? ⟨b, o + 1, none⟩).isSome = true
  c2 : (w.cell? ⟨b, o + 2, none⟩).isSome = true
  c3 : (w.cell? ⟨b, o + 3, none⟩).isSome = true
theorem TermAt.four {w : World} {b : Nat} {p : Pay} {A : Option Addr} {n c : Nat} (h : TermAt w b p A n c) : Four w b 0 := ⟨by rw [h.kind]; rfl, by rw [show 0 + 1 = 1 from rfl, h.num]; rfl, by rw [show 0 + 2 = 2 from rfl, h.name]; rfl, by rw [show 0 + 3 = 3 from rfl, h.args]; rfl⟩
theorem cell_set {w : World} {b i j : Nat} {v : Value} (h : i ≠ j) : (w.setCell ⟨b, i, none⟩ v).cell? ⟨b, j, none⟩ = w.cell? ⟨b, j, none⟩ := by
  apply World.cell?_setCell_other
  exact addr_ne h
theorem cell_put {w : World} {b i : Nat} {v : Value} (h : (w.cell? ⟨b, i, none⟩).isSome = true) : (w.setCell ⟨b, i, none⟩ v).cell? ⟨b, i, none⟩ = some v := World.cell?_setCell_same' _ _ _ h
theorem set4_far (w : World) (b o : Nat) (p : Pay) (A : Option Addr) (n c j : Nat) (h : j < o ∨ o + 4 ≤ j) : (set4 w b o p A n c).cell? ⟨b, j, none⟩ = w.cell? ⟨b, j, none⟩ := by
  unfold set4
  rw [cell_set, cell_set, cell_set, cell_set] <;> omega
theorem set4_cells (w : World) (b o : Nat) (p : Pay) (A : Option Addr) (n c : Nat) (h : Four w b o) :
    (set4 w b o p A n c).cell? ⟨b, o, none⟩ = some (.int .i64 p.1) ∧ (set4 w b o p A n c).cell? ⟨b, o + 1, none⟩ = some (.int .i64 p.2.1) ∧ (set4 w b o p A n c).cell? ⟨b, o + 2, none⟩ = some (.string p.2.2) ∧ (set4 w b o p A n c).cell? ⟨b, o + 3, none⟩ = some (.slice A n c) := by
  unfold set4
  have e01 : o ≠ o + 1 := by omega
  have e02 : o ≠ o + 2 := by omega
  have e03 : o ≠ o + 3 := by omega
  have e12 : o + 1 ≠ o + 2 := by omega
  have e13 : o + 1 ≠ o + 3 := by omega
  have e23 : o + 2 ≠ o + 3 := by omega
  refine ⟨?_, ?_, ?_, ?_⟩
  · rw [cell_set e03.symm, cell_set e02.symm, cell_set e01.symm]
    exact cell_put h.c0
  · rw [cell_set e13.symm, cell_set e12.symm]
    exact cell_put (by rw [cell_set e01]; exact h.c1)
  · rw [cell_set e23.symm]
    exact cell_put (by rw [cell_set e12, cell_set e02]; exact h.c2)
  · exact cell_put (by rw [cell_set e23, cell_set e13, cell_set e03]; exact h.c3)
theorem set4_term (w : World) (b : Nat) (p : Pay) (A : Option Addr) (n c : Nat) (h : Four w b 0) : TermAt (set4 w b 0 p A n c) b p A n c := by
  obtain ⟨h0, h1, h2, h3⟩ := set4_cells w b 0 p A n c h
  exact ⟨h0, h1, h2, h3⟩

theorem term_info : (Try.prog.info? 24).map (·.size) = some 4 := by kernel_rfl
/-- A term that is a result in a block of its own. -/
theorem term_result {fn : Func} {q : Tmp} (h : fn.results = #[.cell q 24]) (tmps : Array Value) (w : World) (b : Nat) (p : Pay) (A : Option Addr) (n c : Nat) (hp : tmps.getD q undef = .pointer (some ⟨b, 0, none⟩)) (ht : TermAt w b p A n c) :
    (results fn tmps).run Try.prog w = .ok (tv p A n c) w := by
  have hp' : tmps[q]?.getD undef = .pointer (some ⟨b, 0, none⟩) := by simpa using hp
  have hl : (loadCells ⟨b, 0, none⟩ 4).run Try.prog w = .ok #[.int .i64 p.1, .int .i64 p.2.1, .string p.2.2, .slice A n c] w := by
    refine run_loadCells_list (P := Try.prog) w ⟨b, 0, none⟩ [.int .i64 p.1, .int .i64 p.2.1, .string p.2.2, .slice A n c] (fun j v hv => ?_)
    have hadd : (⟨b, 0, none⟩ : Addr).add j = ⟨b, j, none⟩ := by unfold Addr.add; split <;> simp_all
    rw [hadd]
    match j, hv with
    | 0, hv => cases hv; exact ht.kind
    | 1, hv => cases hv; exact ht.num
    | 2, hv => cases hv; exact ht.name
    | 3, hv => cases hv; exact ht.args
    | _ + 4, hv => cases hv
  have hagg : (isAgg 24).run Try.prog w = .ok true w := by
    unfold isAgg
    rw [Sem.run_bind, run_underlying Try.underlying24 w]
    rfl
  have hlv : (loadVar 24 ⟨b, 0, none⟩).run Try.prog w = .ok (tv p A n c) w := by
    cases hq : Try.prog.info? 24 with
    | none => have := term_info; rw [hq] at this; cases this
    | some i =>
      have hs : i.size = 4 := by have := term_info; rw [hq] at this; simpa using this
      simp [loadVar, Sem.run_bind, hagg, sizeOf, typeInfo, hq, hs, hl]
  simp [results, h, hp', asAddr, hlv]

/-- The zero Term. -/
abbrev zp : Pay := (0, 0, ByteArray.empty)

/-- Four cells that can be written. -/
structure Soft4 (w : World) (b o : Nat) : Prop where
  c0 : ∃ u, w.cell? ⟨b, o, none⟩ = some u
  c1 : ∃ u, w.cell? ⟨b, o + 1, none⟩ = some u
  c2 : ∃ u, w.cell? ⟨b, o + 2, none⟩ = some u
  c3 : ∃ u, w.cell? ⟨b, o + 3, none⟩ = some u
  s0 : w.frozen? ⟨b, o, none⟩ = false
  s1 : w.frozen? ⟨b, o + 1, none⟩ = false
  s2 : w.frozen? ⟨b, o + 2, none⟩ = false
  s3 : w.frozen? ⟨b, o + 3, none⟩ = false

def RebDoes {σ : Type} (f : σ → Int → σ × Pay × Fo) (Bo : Nat) (X : Nat → Prop) (Inv : σ → World → Prop) (s : σ) (p : Pay) (l : Fo) (w : World) (e : Ending) (w' : World) : Prop :=
  ∃ A c, e = .returned (tv (Tm.rebT f s p l).2.1 A (Tm.len (Tm.rebT f s p l).2.2) c) ∧ ArgsIn (fun b => (b < Bo ∨ w.heap.size ≤ b) ∧ b < w'.heap.size) w' A (Tm.len (Tm.rebT f s p l).2.2) (Tm.rebT f s p l).2.2 ∧ Inv (Tm.rebT f s p l).1 w' ∧ Only X w w'

set_option maxHeartbeats 4000000 in
theorem rebuilt_var {σ : Type} (f : σ → Int → σ × Pay × Fo) (g : Nat) (cap : Array Value) (B Bo Bx : Nat) (X : Nat → Prop) (Inv : σ → World → Prop) (O : OfSpec f g cap B Bo Bx X Inv)
    (v : Int) (nm : ByteArray) (n c : Nat) (A : Option Addr) (s : σ) (w : World) (l : Fo) (h0 : 0 ≤ v) (h1 : v ≤ 1099511627776) (hI : Inv s w) (hB : Bx ≤ w.heap.size) :
    Calls Try.prog 94 #[tv (0, v, nm) A n c, .func (.func g) #[] cap] w (RebDoes f Bo X Inv s (0, v, nm) l w) := by
  have eg := O.enters
  have OO := Lib.hid O
  have HI := Lib.hid hI
  clear O hI
  unfold RebDoes Tm.rebT
  rw [if_pos rfl]
  go_enter Try.func94, Try.ntmps94
  go_wp2_with fail
  refine (OO.out.gives s v _ (OO.out.keeps s w _ HI.out (by simp; omega) (fun k hk => ?_)) (by simp; omega) h0 h1).mono ?_
  · exact (two_boxes w _ _).block k (by omega)
  rintro e w1 ⟨A1, c1, rfl, ha, hi, ho⟩
  have hw1 : w.heap.size + 1 < w1.heap.size := by have := ho.size; simp at this; omega
  have hbk : w1.heap[w.heap.size + 1]? = ((w.alloc (.cells #[.int .i64 0, .int .i64 v, .string nm, .slice A n c] 24)).alloc (.cells #[.int .i64 0, .int .i64 0, .string ByteArray.empty, .slice none 0 0] 24)).heap[w.heap.size + 1]? :=
    ho.block _ (by simp) (fun hx => by have := (OO.out.own _ hx).2; omega)
  have ht : TermAt w1 (w.heap.size + 1) zp none 0 0 := (by simpa using TermAt.new (w.alloc _) zp none 0 0 24 : TermAt ((w.alloc _).alloc _) (w.heap.size + 1) zp none 0 0).same hbk
  have hs : SoftAt w1 (w.heap.size + 1) := (by simpa using SoftAt.new (w.alloc _) _ 24 : SoftAt ((w.alloc _).alloc _) (w.heap.size + 1)).same hbk
  have r0 := ht.kind
  have r1 := ht.num
  have r2 := ht.name
  have r3 := ht.args
  have q0 := hs.s0
  have q1 := hs.s1
  have q2 := hs.s2
  have q3 := hs.s3
  have HA := Lib.hid ha
  have HI1 := Lib.hid hi
  have HO := Lib.hid ho
  clear ha hi ho ht hs hbk
  obtain ⟨m1, hm1⟩ : ∃ m1, m1 = Tm.len (f s v).2.2 := ⟨_, rfl⟩
  rw [← hm1]
  have HM := Lib.hid hm1
  clear hm1
  go_wp2_with fail
  have h4 : Four w1 (w.heap.size + 1) 0 := ⟨by rw [r0]; rfl, by rw [show 0 + 1 = 1 from rfl, r1]; rfl, by rw [show 0 + 2 = 2 from rfl, r2]; rfl, by rw [show 0 + 3 = 3 from rfl, r3]; rfl⟩
  show bodyPost _ _ _ _ _ (set4 w1 (w.heap.size + 1) 0 (f s v).2.1 A1 m1 c1)
  have g1 := set4_term w1 (w.heap.size + 1) (f s v).2.1 A1 m1 c1 h4
  have g2 := set4_size w1 (w.heap.size + 1) 0 (f s v).2.1 A1 m1 c1
  have g3 := set4_block w1 (w.heap.size + 1) 0 (f s v).2.1 A1 m1 c1
  have g4 : Only X w (set4 w1 (w.heap.size + 1) 0 (f s v).2.1 A1 m1 c1) := set4_only _ _ _ _ _ _ ((((Only.refl X w).alloc _).alloc _).trans HO.out) (by omega)
  generalize set4 w1 (w.heap.size + 1) 0 (f s v).2.1 A1 m1 c1 = w2 at g1 g2 g3 g4 ⊢
  refine bodyPost_ret (term_result (q := 4) rfl _ _ (w.heap.size + 1) (f s v).2.1 A1 m1 c1 rfl g1) rfl ?_
  have hlo := OO.out.lo
  have hlo2 := OO.out.lo2
  refine ⟨A1, c1, by rw [HM.out], ?_, ?_, g4⟩
  · refine (HA.out.keep (w' := w2) fun b hb => g3 b ?_).mono fun b hb => ?_
    · have := hb.1; simp at this; omega
    · have := hb.2; have := hb.1; simp at this; omega
  · exact OO.out.keeps _ _ _ HI1.out (by omega) fun k hk => g3 k (by omega)

theorem term_info3 : (Try.prog.info? 24).map (fun i => (i.zero, i.size, i.bytes)) = some (some (tv zp none 0 0), 4, 56) := by kernel_rfl

/-- A node that is no variable and no structure is copied. -/
theorem rebuilt_leaf {σ : Type} (f : σ → Int → σ × Pay × Fo) (g : Nat) (cap : Array Value) (B Bo Bx : Nat) (X : Nat → Prop) (Inv : σ → World → Prop) (O : OfSpec f g cap B Bo Bx X Inv)
    (k v : Int) (nm : ByteArray) (c : Nat) (A : Option Addr) (s : σ) (w : World) (h0 : ¬ k = 0) (h1 : ¬ k = 3) (hI : Inv s w) (hB : Bx ≤ w.heap.size) :
    Calls Try.prog 94 #[tv (k, v, nm) A 0 c, .func (.func g) #[] cap] w (RebDoes f Bo X Inv s (k, v, nm) .nil w) := by
  have OO := Lib.hid O
  have HI := Lib.hid hI
  clear O hI
  unfold RebDoes Tm.rebT
  rw [if_neg h0]
  go_enter Try.func94, Try.ntmps94
  go_wp2_with fail
  have g0 := two_boxes w
  have g1 : ∀ o1, TermAt ((w.alloc o1).alloc (.cells #[.int .i64 k, .int .i64 v, .string nm, .slice none 0 0] 24)) (w.heap.size + 1) (k, v, nm) none 0 0 := fun o1 => by simpa using TermAt.new (w.alloc o1) (k, v, nm) none 0 0 24
  refine bodyPost_ret (term_result (q := 4) rfl _ _ (w.heap.size + 1) (k, v, nm) none 0 0 rfl (g1 _)) rfl ?_
  exact ⟨none, 0, rfl, ArgsIn.nil _ _ _, OO.out.keeps s w _ HI.out (by simp; omega) (fun j hj => (g0 _ _).block j (by omega)), Only.of_below (g0 _ _)⟩

end Go.Proofs.Ytapcnehpechkpaa
