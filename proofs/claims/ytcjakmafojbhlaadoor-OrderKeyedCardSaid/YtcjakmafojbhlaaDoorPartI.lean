/-
  Values that do not lead into a given block; a row of the call's own that is appended to, beside calls, in whatever order.
  PLAIN MATHEMATICS: sorted rows without duplicates increase; the sorted row does not depend on the order of the elements; sorting again changes nothing; ranks in increasing rows.
-/
import Derived.Test.YtcjakmafojbhlaaDoorPartH
import Derived.Test.YtcjakmafojbhlaaDoorPartF
import Derived.Test.YtcjakmafojbhlaaDoorPartE
namespace Go.Proofs.YtcjakmafojbhlaaDoor
set_option linter.unusedVariables false
set_option linter.unusedSimpArgs false
open Go.RowKit

/-- A term whose arguments do not lie in block G. -/
def avT (G : Option Nat) (p : Pay) (l : Fo) : Pd where
  R := fun v w => ∃ A c, v = tv p A (Tm.len l) c ∧ ArgsIn (fun b => b < w.heap.size ∧ G ≠ some b) w A (Tm.len l) l
  keep := by
    rintro v w w' ⟨A, c, e, h⟩ hb
    exact ⟨A, c, e, (h.keep fun b hb' => hb.block b hb'.1).mono fun b hb' => ⟨Nat.lt_of_lt_of_le hb'.1 hb.size, hb'.2⟩⟩
def avR (G : Option Nat) (F : Fo) : Pd where
  R := fun v w => ∃ A c, v = .slice A (Tm.len F) c ∧ ArgsIn (fun b => b < w.heap.size ∧ G ≠ some b) w A (Tm.len F) F
  keep := by
    rintro v w w' ⟨A, c, e, h⟩ hb
    exact ⟨A, c, e, (h.keep fun b hb' => hb.block b hb'.1).mono fun b hb' => ⟨Nat.lt_of_lt_of_le hb'.1 hb.size, hb'.2⟩⟩
def avPt (G : Option Nat) (p : Pay) (l : Fo) : Pd where
  R := fun v w => ∃ b o A c, v = .pointer (some ⟨b, o, none⟩) ∧ b < w.heap.size ∧ NodeAt (fun b => b < w.heap.size ∧ G ≠ some b) w b o p l A c
  keep := by
    rintro v w w' ⟨b, o, A, c, e, hlt, hn⟩ hb
    exact ⟨b, o, A, c, e, Nat.lt_of_lt_of_le hlt hb.size, hn.keep (hb.block _ hlt) (fun b hb' => hb.block b hb'.1) (fun b hb' => ⟨Nat.lt_of_lt_of_le hb'.1 hb.size, hb'.2⟩)⟩
/-- Block G is there. -/
def ltG (G : Option Nat) : Pd where
  R := fun _ w => ∀ g, G = some g → g < w.heap.size
  keep := fun _ _ _ h hb g e => Nat.lt_of_lt_of_le (h g e) hb.size
def ownRP (N0 : Nat) (A : Option Addr) (n c : Nat) (F : Fo) : Pd where
  R := fun _ w => OwnR N0 w A n c F
  keep := fun _ _ _ h hb => h.below hb
/-- A row of the call's own, that is appended to. -/
def apP (N0 : Nat) (F : Fo) : Pd where
  R := fun v w => ∃ A c, v = .slice A (Tm.len F) c ∧ OwnR N0 w A (Tm.len F) c F
  keep := by
    rintro v w w' ⟨A, c, e, h⟩ hb
    exact ⟨A, c, e, h.below hb⟩
theorem apP.to {N0 : Nat} {F : Fo} {w : World} {v : Value} (h : (apP N0 F).R v w) (hn : Tm.len F ≤ 9223372036854775807) : (Kd.row F).R v w := by
  obtain ⟨A, c, e, ho⟩ := h
  exact ⟨A, c, e, ho.args hn⟩
theorem row_newS {w : World} {S : Nat → Prop} (vs : List Value) (F : Fo) (n : Nat) (t : TypeId) (G : Option Nat) (hv : Vals (fun b => b < w.heap.size ∧ G ≠ some b) w vs F) (hn : Tm.len F = n) (h63 : n ≤ 1000) (hG : ∀ g, G = some g → g < w.heap.size) :
    (avR G F).R (.slice (some ⟨w.heap.size, 0, none⟩) n n) (w.alloc (.cells (tcells vs).toArray t)) := by
  subst hn
  refine ⟨some ⟨w.heap.size, 0, none⟩, Tm.len F, rfl, ?_⟩
  have hl := Vals.len vs F hv
  have hb := alloc_new w (.cells (tcells vs).toArray t)
  have hs : (w.alloc (.cells (tcells vs).toArray t)).heap.size = w.heap.size + 1 := World.size_alloc _ _
  rw [hs]
  have hv' : Vals (fun b => b < w.heap.size + 1 ∧ G ≠ some b) (w.alloc (.cells (tcells vs).toArray t)) vs F := Vals.mono (fun b h => ⟨Nat.lt_succ_of_lt h.1, h.2⟩) vs F (Vals.keep (fun b h => Below.heap_alloc w _ b h.1) vs F hv)
  have := Vals.args (b := w.heap.size) (o := 0) (S := fun b => b < w.heap.size + 1 ∧ G ≠ some b) ⟨by omega, fun e => by have := hG _ e; omega⟩ hv' (by omega) (fun j u hu => by
    rw [Nat.zero_add]
    rw [cell_of_row _ _ _ _ _ _ hb]
    simpa using hu)
  rw [hl] at this
  exact this
section
variable {ops : Array Oper} {Q : Exit → Act → World → Prop} {E : Nat → Kd} {D : Nat → Nat} {base : Nat → Option Kd} {N : Nat}
theorem Opd.av {i : Nat} {x : Operand} {F : Fo} {wz : World} {G : Option Nat} (hG : ∀ g, G = some g → wz.heap.size ≤ g) (h : Opd ops E D base N i x (.sat (oldP (.row F) wz))) : Opd ops E D base N i x (.sat (avR G F)) := fun a w hc => by
  obtain ⟨⟨A, c, e, ha⟩, hb⟩ := h a w hc
  exact ⟨A, c, e, (ha.below hb (Nat.le_refl _)).mono fun b (hb' : b < wz.heap.size) => ⟨Nat.lt_of_lt_of_le hb' hb.size, fun e => by have := hG _ e; omega⟩⟩
theorem step_row_at_av {i : Nat} {x y : Operand} {F l r : Fo} {k : Nat} {p : Pay} {G : Option Nat} (hop : (ops[i]?).map (·.op) = some (.indexAddr 22 x y)) (hx : Opd ops E D base N i x (.sat (avR G F))) (hy : Opd ops E D base N i y (.val (.int .i64 (k : Int)))) (hd : Tm.dropF F k = .node p l r) (hE : E i = .sat (avPt G p l)) : Step Tryd.prog ops Q E D base N i :=
  step_still hop hE fun a w h dst ty' pos after guard => by
    obtain ⟨A, c, e, ha⟩ := hx a w h
    have e' : a.eval y = .int .i64 (k : Int) := hy a w h
    have hk : k < Tm.len F := by
      have h1 := Tm.len_drop F k
      rw [hd] at h1
      have h2 : Tm.len (Fo.node p l r) = Tm.len r + 1 := rfl
      omega
    obtain ⟨b, o, p1, l1, r1, A1, c1, rfl, hb, hd', hn⟩ := ha.at hk
    rw [hd] at hd'
    cases hd'
    refine ⟨.pointer (some ⟨b, o + k * 4, none⟩), ?_, b, o + k * 4, A1, c1, rfl, hb.1, hn⟩
    generalize Tm.len F = n at e hk
    unfold execOp
    simp only [e, e']
    go_simp
theorem step_load_av {i : Nat} {x : Operand} {p : Pay} {l : Fo} {G : Option Nat} (hop : (ops[i]?).map (·.op) = some (.load 24 x)) (hx : Opd ops E D base N i x (.sat (avPt G p l))) (hE : E i = .sat (avT G p l)) : Step Tryd.prog ops Q E D base N i :=
  step_still hop hE fun a w h dst ty' pos after guard => by
    obtain ⟨b, o, A, c, e, hb, hn⟩ := hx a w h
    refine ⟨tv p A (Tm.len l) c, ?_, A, c, rfl, hn.inn⟩
    have h0 := hn.kind
    have h1 := hn.num
    have h2 := hn.name
    have h3 := hn.args
    generalize Tm.len l = n at h3
    unfold execOp
    simp only [e]
    go_simp
theorem step_n_av {i : Nat} {x : Operand} {n : Int} {G : Option Nat} (hop : (ops[i]?).map (·.op) = some (.call { callee := .value (.func 34), args := #[x], argTypes := #[2] })) (hx : Opd ops E D base N i x (.val (.int .i64 n))) (hE : E i = .sat (avT G (1, n, ByteArray.empty) .nil)) : Step Tryd.prog ops Q E D base N i :=
  step_call hop (fun _ _ => by kernel_rfl) fun a w h => by
    have ex : a.eval x = .int .i64 n := hx a w h
    rw [show (#[x] : Array Operand).map a.eval = #[.int .i64 n] by rw [← ex]; simp]
    exact (n_any n w).mono fun e w' ⟨he, hb⟩ => ⟨_, he, by rw [hE]; exact ⟨none, 0, rfl, ArgsIn.nil _ _ _⟩, hb⟩
theorem step_f_av {i : Nat} {x y : Operand} {s : ByteArray} {F : Fo} {G : Option Nat} (hop : (ops[i]?).map (·.op) = some (.call { callee := .value (.func 33), args := #[x, y], argTypes := #[9, 22] })) (hx : Opd ops E D base N i x (.val (.string s))) (hy : Opd ops E D base N i y (.sat (avR G F))) (hE : E i = .sat (avT G (3, 0, s) F)) : Step Tryd.prog ops Q E D base N i :=
  step_call hop (fun _ _ => by kernel_rfl) fun a w h => by
    have ex : a.eval x = .string s := hx a w h
    obtain ⟨A, c, ey, ha⟩ := hy a w h
    rw [show (#[x, y] : Array Operand).map a.eval = #[.string s, .slice A (Tm.len F) c] by rw [← ex, ← ey]; simp]
    exact (f_any s A (Tm.len F) c w).mono fun e w' ⟨he, hb⟩ => ⟨_, he, by rw [hE]; exact ⟨A, c, rfl, ((avR G F).keep (.slice A (Tm.len F) c) w w' ⟨A, c, rfl, ha⟩ hb).choose_spec.choose_spec.2 |> fun h => by
      have := (avR G F).keep (.slice A (Tm.len F) c) w w' ⟨A, c, rfl, ha⟩ hb
      obtain ⟨A2, c2, e2, h2⟩ := this
      cases e2
      exact h2⟩, hb⟩
theorem step_slice1_av {i ss : Nat} {x0 : Operand} {p0 : Pay} {l0 : Fo} {G : Option Nat} (hop : (ops[i]?).map (·.op) = some (.buildSlice 22 1 #[(0, x0)])) (h0 : Opd ops E D base N i x0 (.sat (avT G p0 l0))) (hG : Opd ops E D base N i (.tmp ss) (.sat (ltG G))) (hE : E i = .sat (avR G (.node p0 l0 .nil))) : Step Tryd.prog ops Q E D base N i := by
  intro o ho a w hc K hK
  have hxo := op_of ho hop
  obtain ⟨dst, op, ty, pos, after, guard⟩ := o
  have hx' : op = _ := hxo
  subst hx'
  obtain ⟨A0, c0, e0, ha0⟩ := h0 a w hc
  have hv : Vals (fun b => b < w.heap.size ∧ G ≠ some b) w [tv p0 A0 (Tm.len l0) c0] (.node p0 l0 .nil) := ⟨⟨A0, c0, rfl, ha0⟩, trivial⟩
  have hr := row_newS (S := fun _ => True) _ _ 1 24 G hv rfl (by decide) (hG a w hc)
  have hrun : (execOp a.eval ⟨dst, .buildSlice 22 1 #[(0, x0)], ty, pos, after, guard⟩).run Tryd.prog w = .ok (.value (.slice (some ⟨w.heap.size, 0, none⟩) 1 1)) (w.alloc (.cells (tcells [tv p0 A0 (Tm.len l0) c0]).toArray 24)) := by
    unfold execOp
    simp only [List.map_toArray, List.map_cons, List.map_nil, e0]
    go_simp
    rfl
  unfold Oper.wp
  rw [hrun]
  exact hK _ _ (by rw [hE]; exact hr) ((Below.refl _ _).alloc (Nat.le_refl _) _)
theorem step_slice2_av {i ss : Nat} {x0 x1 : Operand} {p0 p1 : Pay} {l0 l1 : Fo} {G : Option Nat} (hop : (ops[i]?).map (·.op) = some (.buildSlice 22 2 #[(0, x0), (1, x1)])) (h0 : Opd ops E D base N i x0 (.sat (avT G p0 l0))) (h1 : Opd ops E D base N i x1 (.sat (avT G p1 l1))) (hG : Opd ops E D base N i (.tmp ss) (.sat (ltG G))) (hE : E i = .sat (avR G (.node p0 l0 (.node p1 l1 .nil)))) : Step Tryd.prog ops Q E D base N i := by
  intro o ho a w hc K hK
  have hxo := op_of ho hop
  obtain ⟨dst, op, ty, pos, after, guard⟩ := o
  have hx' : op = _ := hxo
  subst hx'
  obtain ⟨A0, c0, e0, ha0⟩ := h0 a w hc
  obtain ⟨A1, c1, e1, ha1⟩ := h1 a w hc
  have hv : Vals (fun b => b < w.heap.size ∧ G ≠ some b) w [tv p0 A0 (Tm.len l0) c0, tv p1 A1 (Tm.len l1) c1] (.node p0 l0 (.node p1 l1 .nil)) := ⟨⟨A0, c0, rfl, ha0⟩, ⟨A1, c1, rfl, ha1⟩, trivial⟩
  have hr := row_newS (S := fun _ => True) _ _ 2 24 G hv rfl (by decide) (hG a w hc)
  have hrun : (execOp a.eval ⟨dst, .buildSlice 22 2 #[(0, x0), (1, x1)], ty, pos, after, guard⟩).run Tryd.prog w = .ok (.value (.slice (some ⟨w.heap.size, 0, none⟩) 2 2)) (w.alloc (.cells (tcells [tv p0 A0 (Tm.len l0) c0, tv p1 A1 (Tm.len l1) c1]).toArray 24)) := by
    unfold execOp
    simp only [List.map_toArray, List.map_cons, List.map_nil, e0, e1]
    go_simp
    rfl
  unfold Oper.wp
  rw [hrun]
  exact hK _ _ (by rw [hE]; exact hr) ((Below.refl _ _).alloc (Nat.le_refl _) _)
theorem step_ge_int64 {i : Nat} {x y : Operand} {m n : Int} {b : Bool} (hop : (ops[i]?).map (·.op) = some (.binOp .geq 2 x y 2)) (hx : Opd ops E D base N i x (.val (.int .i64 m))) (hy : Opd ops E D base N i y (.val (.int .i64 n))) (hb : (decide (n ≤ m)) = b) (hE : E i = .val (.bool b)) : Step Tryd.prog ops Q E D base N i :=
  step_still hop hE fun a w h dst ty' pos after guard => by
    have e : a.eval x = .int .i64 m := hx a w h
    have e' : a.eval y = .int .i64 n := hy a w h
    refine ⟨.bool b, ?_, rfl⟩
    rw [← hb]
    unfold execOp
    simp only [e, e']
    go_simp
end
theorem wp_append_terms {o : Oper} {a : Act} {Q : Exit → Act → World → Prop} {K : Act → World → Prop} {w : World} (s x : Operand) (ho : o.op = .call { callee := .builtin .append, args := #[s, x], argTypes := #[22, 22] })
    {N : Nat} {A0 : Option Addr} {n c0 : Nat} {F : Fo} (h : OwnR N w A0 n c0 F) (hs : a.eval s = .slice A0 n c0) {A : Option Addr} {m c : Nat} {G : Fo} (hx : a.eval x = .slice A m c)
    (hA : ArgsIn (fun b => b < w.heap.size ∧ (Value.slice A0 n c0).ownBlock ≠ some b) w A m G) (hb : n + m ≤ 100000)
    (hk : ∀ A' c' w', OwnR N w' A' (n + m) c' (Tm.app F G) → Below N w w' → (∀ b, b < w.heap.size → (Value.slice A0 n c0).ownBlock ≠ some b → w'.heap[b]? = w.heap[b]?) → K (a.put o.dst (.slice A' (n + m) c')) w') : o.wp Tryd.prog a w K Q := by
  obtain ⟨A', c', w', hr, h1, h2, h3⟩ := append_terms h hA hb o.type
  unfold Oper.wp
  simp [execOp, ho, resolve, invoke, builtin, hs, hx, Result.andThen]
  rw [hr]
  exact hk A' c' w' h1 h2 h3
end Go.Proofs.YtcjakmafojbhlaaDoor
namespace Go.Proofs.YtcjakmafojbhlaaDoor
set_option linter.unusedVariables false
set_option linter.unusedSimpArgs false
open Go.RowKit
namespace Tm
theorem cmpP_le_trans {x y z : Tn} (h : cmpP x y ≤ 0) (h' : cmpP y z ≤ 0) : cmpP x z ≤ 0 := by
  obtain ⟨f1, f2, f3, f4⟩ := cmpP_fit x y z
  by_cases h0 : cmpP x y = 0
  · have := f2 h0; omega
  · by_cases h1 : cmpP y z = 0
    · have := f3 h1; omega
    · have := f1 (by omega) (by omega); omega
theorem cmpP_le_lt {x y z : Tn} (h : cmpP x y ≤ 0) (h' : cmpP y z < 0) : cmpP x z < 0 := by
  obtain ⟨f1, f2, f3, f4⟩ := cmpP_fit x y z
  by_cases h0 : cmpP x y = 0
  · have := f2 h0; omega
  · exact f1 (by omega) h'
theorem sortL_le (L : List Tn) : (sortL false L).Pairwise (fun s t => cmpP s t ≤ 0) := (isSort_sortL false L).sorted
theorem sorted_at {G : List Tn} (h : G.Pairwise (fun s t => cmpP s t ≤ 0)) {i j : Nat} (hij : i ≤ j) (hj : j < G.length) : cmpP G[i]! G[j]! ≤ 0 := by
  by_cases he : i = j
  · subst he; rw [cmpP_zero.2 rfl]; exact Int.le_refl _
  · rw [getElem!_pos G i (by omega), getElem!_pos G j hj]
    exact List.pairwise_iff_getElem.1 h i j (by omega) hj (by omega)
theorem uniqTo_inc {G : List Tn} (h : G.Pairwise (fun s t => cmpP s t ≤ 0)) : ∀ k, k ≤ G.length → (uniqTo G k).Pairwise (fun s t => cmpP s t < 0) ∧ ∀ x ∈ uniqTo G k, ∀ j, k ≤ j + 1 → j < G.length → cmpP x G[j]! ≤ 0
  | 0, _ => ⟨List.Pairwise.nil, fun x hx => by cases hx⟩
  | k + 1, hk => by
    obtain ⟨h1, h2⟩ := uniqTo_inc h k (by omega)
    cases hd : dupAt G k with
    | true =>
      rw [uniqTo_dup hd]
      refine ⟨h1, fun x hx j hj hjl => h2 x hx j (by omega) hjl⟩
    | false =>
      rw [uniqTo_new hd]
      refine ⟨?_, fun x hx j hj hjl => ?_⟩
      · rw [List.pairwise_append]
        refine ⟨h1, List.pairwise_singleton _ _, fun x hx y hy => ?_⟩
        rw [List.mem_singleton] at hy
        subst hy
        by_cases h0 : k = 0
        · subst h0; cases hx
        · have ha := h2 x hx (k - 1) (by omega) (by omega)
          have hb := sorted_at h (i := k - 1) (j := k) (by omega) (by omega)
          have hn : cmpP G[k]! G[k - 1]! ≠ 0 := by
            unfold dupAt at hd
            rw [decide_eq_true (by omega : 0 < k), Bool.true_and, decide_eq_false_iff_not] at hd
            exact hd
          have hneg := cmpP_neg G[k - 1]! G[k]!
          exact cmpP_le_lt ha (by omega)
      · rcases List.mem_append.1 hx with hx | hx
        · exact h2 x hx j (by omega) hjl
        · rw [List.mem_singleton] at hx
          subst hx
          exact sorted_at h (i := k) (j := j) (by omega) hjl
theorem uniq_lt (L : List Tn) : (uniq (sortL false L)).Pairwise (fun s t => cmpP s t < 0) := (uniqTo_inc (sortL_le L) _ (Nat.le_refl _)).1
theorem incB_of_pairwise {G : List Tn} (h : G.Pairwise (fun s t => cmpP s t < 0)) : incB G = true := by
  rw [incB_iff]
  intro k hk
  rw [getElem!_pos G k (by omega), getElem!_pos G (k + 1) hk]
  exact List.pairwise_iff_getElem.1 h k (k + 1) (by omega) hk (by omega)
theorem uniq_inc (L : List Tn) : incB (uniq (sortL false L)) = true := incB_of_pairwise (uniq_lt L)
/-- The sorted row does not depend on the order of the elements. -/
theorem sortL_of_perm {L L' : List Tn} (h : L.Perm L') : sortL false L = sortL false L' :=
  List.Perm.eq_of_pairwise (le := fun s t => cmpP s t ≤ 0) (fun x y _ _ h1 h2 => cmpP_zero.1 (by have := cmpP_neg x y; omega)) (sortL_le L) (sortL_le L') (((sortL_perm false L).trans h).trans (sortL_perm false L').symm)
theorem sortL_again (L : List Tn) : sortL false (sortL false L) = sortL false L := sortL_of_perm (sortL_perm false L)
/-- Each element of the row is among the different ones. -/
theorem mem_uniqTo {G : List Tn} : ∀ k, k ≤ G.length → ∀ j, j < k → G[j]! ∈ uniqTo G k
  | 0, _, j, h => by omega
  | k + 1, hk, j, hj => by
    have ih := mem_uniqTo (G := G) k (by omega)
    cases hd : dupAt G k with
    | false =>
      rw [uniqTo_new hd, List.mem_append]
      by_cases h : j = k
      · subst h; right; simp
      · left; exact ih j (by omega)
    | true =>
      rw [uniqTo_dup hd]
      by_cases h : j = k
      · subst h
        unfold dupAt at hd
        simp only [Bool.and_eq_true, decide_eq_true_eq] at hd
        rw [cmpP_zero.1 hd.2]
        exact mem_uniqTo j (by omega) (j - 1) (by omega)
      · exact ih j (by omega)
theorem mem_uniq {G : List Tn} {x : Tn} : x ∈ uniq G ↔ x ∈ G := by
  refine ⟨uniq_mem, fun h => ?_⟩
  obtain ⟨j, hj, rfl⟩ := List.mem_iff_getElem.1 h
  have := mem_uniqTo (G := G) G.length (Nat.le_refl _) j hj
  rwa [getElem!_pos G j hj] at this
/-- An element of an increasing row has its index as its rank. -/
theorem rankOf_at {G : List Tn} (h : G.Pairwise (fun s t => cmpP s t < 0)) {k : Nat} (hk : k < G.length) : rankOf G G[k]! = k ∧ rankHas G G[k]! = true := by
  have h0 : cmpP G[k]! G[k]! = 0 := cmpP_zero.2 rfl
  have hr : rankOf G G[k]! = k := rankOf_eq (by omega) (fun j hj => by
    rw [getElem!_pos G j (by omega), getElem!_pos G k hk]
    exact List.pairwise_iff_getElem.1 h j k (by omega) hk hj) (fun _ => by omega)
  refine ⟨hr, ?_⟩
  unfold rankHas
  rw [hr, decide_eq_true hk, Bool.true_and, h0]
  rfl
/-- Where the elements increase: those before the rank come before, the others do not. -/
theorem rankOf_split {G : List Tn} (h : G.Pairwise (fun s t => cmpP s t < 0)) (t : Tn) {k : Nat} (hk : k < G.length) : decide (cmpP G[k]! t < 0) = decide (k < rankOf G t) := by
  have hle := rankOf_le G t
  rcases Nat.lt_or_ge k (rankOf G t) with hlt | hge
  · rw [decide_eq_true hlt]
    have := List.not_of_lt_findIdx (xs := G) (p := fun x => decide (0 ≤ cmpP x t)) hlt
    rw [getElem!_pos G k hk]
    refine decide_eq_true ?_
    have h2 : ¬ 0 ≤ cmpP G[k] t := by simpa using this
    omega
  · rw [decide_eq_false (show ¬ k < rankOf G t by omega)]
    refine decide_eq_false ?_
    have hr : rankOf G t < G.length := by omega
    have h3 := List.findIdx_getElem (xs := G) (p := fun x => decide (0 ≤ cmpP x t)) (w := hr)
    have h4 : 0 ≤ cmpP G[rankOf G t]! t := by rw [getElem!_pos G _ hr]; exact of_decide_eq_true h3
    intro hc
    by_cases he : rankOf G t = k
    · rw [he] at h4; omega
    · have h5 : cmpP G[rankOf G t]! G[k]! < 0 := by
        rw [getElem!_pos G _ hr, getElem!_pos G k hk]
        exact List.pairwise_iff_getElem.1 h _ k hr hk (by omega)
      have := (cmpP_fit G[rankOf G t]! G[k]! t).1 h5 hc
      omega
theorem countP_not {L : List Tn} {q : Tn → Bool} {t : Tn} (hq : ∀ x ∈ L, q x = true ↔ x = t) (h : t ∉ L) : L.countP q = 0 := by
  rw [List.countP_eq_zero]
  intro x hx hqx
  exact h ((hq x hx).1 hqx ▸ hx)
theorem countP_mem {q : Tn → Bool} {t : Tn} : ∀ {L : List Tn}, L.Pairwise (fun s t => cmpP s t < 0) → (∀ x ∈ L, q x = true ↔ x = t) → t ∈ L → L.countP q = 1
  | [], _, _, h => by cases h
  | x :: r, hp, hq, h => by
    rw [List.pairwise_cons] at hp
    by_cases hx : x = t
    · subst hx
      have hn : x ∉ r := fun hm => by have := hp.1 x hm; rw [cmpP_zero.2 rfl] at this; omega
      rw [List.countP_cons, countP_not (fun y hy => hq y (List.mem_cons_of_mem _ hy)) hn, if_pos ((hq x List.mem_cons_self).2 rfl)]
    · have hm : t ∈ r := by
        rcases List.mem_cons.1 h with h | h
        · exact absurd h.symm hx
        · exact h
      rw [List.countP_cons, countP_mem hp.2 (fun y hy => hq y (List.mem_cons_of_mem _ hy)) hm, if_neg (fun e => hx ((hq x List.mem_cons_self).1 e))]
/-- How often a term occurs depends on the elements alone. -/
theorem countF_perm {F G : Fo} (h : (toL F).Perm (toL G)) (p : Pay) (l : Fo) : countF F p l = countF G p l := h.countP_eq _
theorem count_iff {F : Fo} (hv : allV F = true) (p : Pay) (l : Fo) : ∀ x ∈ toL F, (validB x.1 x.2 && sameT x.1 x.2 p l) = true ↔ x = (p, l) := by
  intro x hx
  rw [allV_iff.1 hv x hx, Bool.true_and, sameT_eq]
  exact ⟨fun h => Prod.ext h.1 h.2, fun h => by rw [h]; exact ⟨rfl, rfl⟩⟩
theorem countF_one {F : Fo} (hv : allV F = true) (hp : (toL F).Pairwise (fun s t => cmpP s t < 0)) {p : Pay} {l : Fo} (h : (p, l) ∈ toL F) : countF F p l = 1 := countP_mem hp (count_iff hv p l) h
theorem countF_zero {F : Fo} (hv : allV F = true) {p : Pay} {l : Fo} (h : (p, l) ∉ toL F) : countF F p l = 0 := countP_not (count_iff hv p l) h
theorem countF_pos {F : Fo} (hv : allV F = true) {p : Pay} {l : Fo} (h : (p, l) ∈ toL F) : countF F p l ≠ 0 := by
  intro e
  have := List.countP_eq_zero.1 e (p, l) h
  exact this ((count_iff hv p l _ h).2 rfl)
/-- A term is found exactly where it occurs once. -/
theorem rankHas_iff {F : Fo} (hv : allV F = true) (hp : (toL F).Pairwise (fun s t => cmpP s t < 0)) (p : Pay) (l : Fo) : rankHas (toL F) (p, l) = (((countF F p l : Nat) : Int) == 1) := by
  by_cases h : (p, l) ∈ toL F
  · rw [countF_one hv hp h]
    obtain ⟨k, hk, e⟩ := List.mem_iff_getElem.1 h
    have := (rankOf_at hp hk).2
    rw [getElem!_pos (toL F) k hk, e] at this
    rw [this]
    rfl
  · rw [countF_zero hv h]
    show _ = false
    unfold rankHas
    by_cases hr : rankOf (toL F) (p, l) < (toL F).length
    · rw [decide_eq_true hr, Bool.true_and, decide_eq_false]
      intro e
      rw [getElem!_pos (toL F) _ hr] at e
      exact h (cmpP_zero.1 e ▸ List.getElem_mem hr)
    · rw [decide_eq_false hr, Bool.false_and]
end Tm
end Go.Proofs.YtcjakmafojbhlaaDoor
