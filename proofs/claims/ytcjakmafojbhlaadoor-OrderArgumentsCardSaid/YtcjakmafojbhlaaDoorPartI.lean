/-
  Values that do not lead into a given block; a row of the call's own that is appended to, beside calls, in whatever order.
  A region that draws its order, by what holds whichever operations have come up; its last operations in the order of the text.
  Rows whose elements' arguments lie below a bound; cells of captured variables; slices of a row.
  The closure of OrderArguments: a term between the others.
  Variables of one cell; strings joined; structs built.
  PLAIN MATHEMATICS: sorted rows without duplicates increase; the sorted row does not depend on the order of the elements; sorting again changes nothing; ranks in increasing rows.
-/
import Derived.Test.YtcjakmafojbhlaaDoorPartH
import Derived.Test.YtcjakmafojbhlaaDoorPartF
import Derived.Test.YtcjakmafojbhlaaDoorPartE
namespace Go.Proofs.YtcjakmafojbhlaaDoor
set_option linter.unusedVariables false
set_option linter.unusedSimpArgs false
open Go.RowKit

/-- A term whose arguments do not lie in block G. -/
def avT (G : Option Nat) (p : Pay) (l : Fo) : Pd where
  R := fun v w => ∃ A c, v = tv p A (Tm.len l) c ∧ ArgsIn (fun b => b < w.heap.size ∧ G ≠ some b) w A (Tm.len l) l
  keep := by
    rintro v w w' ⟨A, c, e, h⟩ hb
    exact ⟨A, c, e, (h.keep fun b hb' => hb.block b hb'.1).mono fun b hb' => ⟨Nat.lt_of_lt_of_le hb'.1 hb.size, hb'.2⟩⟩
def avR (G : Option Nat) (F : Fo) : Pd where
  R := fun v w => ∃ A c, v = .slice A (Tm.len F) c ∧ ArgsIn (fun b => b < w.heap.size ∧ G ≠ some b) w A (Tm.len F) F
  keep := by
    rintro v w w' ⟨A, c, e, h⟩ hb
    exact ⟨A, c, e, (h.keep fun b hb' => hb.block b hb'.1).mono fun b hb' => ⟨Nat.lt_of_lt_of_le hb'.1 hb.size, hb'.2⟩⟩
def avPt (G : Option Nat) (p : Pay) (l : Fo) : Pd where
  R := fun v w => ∃ b o A c, v = .pointer (some ⟨b, o, none⟩) ∧ b < w.heap.size ∧ NodeAt (fun b => b < w.heap.size ∧ G ≠ some b) w b o p l A c
  keep := by
    rintro v w w' ⟨b, o, A, c, e, hlt, hn⟩ hb
    exact ⟨b, o, A, c, e, Nat.lt_of_lt_of_le hlt hb.size, hn.keep (hb.block _ hlt) (fun b hb' => hb.block b hb'.1) (fun b hb' => ⟨Nat.lt_of_lt_of_le hb'.1 hb.size, hb'.2⟩)⟩
/-- Block G is there. -/
def ltG (G : Option Nat) : Pd where
  R := fun _ w => ∀ g, G = some g → g < w.heap.size
  keep := fun _ _ _ h hb g e => Nat.lt_of_lt_of_le (h g e) hb.size
def ownRP (N0 : Nat) (A : Option Addr) (n c : Nat) (F : Fo) : Pd where
  R := fun _ w => OwnR N0 w A n c F
  keep := fun _ _ _ h hb => h.below hb
/-- A row of the call's own, that is appended to. -/
def apP (N0 : Nat) (F : Fo) : Pd where
  R := fun v w => ∃ A c, v = .slice A (Tm.len F) c ∧ OwnR N0 w A (Tm.len F) c F
  keep := by
    rintro v w w' ⟨A, c, e, h⟩ hb
    exact ⟨A, c, e, h.below hb⟩
theorem apP.to {N0 : Nat} {F : Fo} {w : World} {v : Value} (h : (apP N0 F).R v w) (hn : Tm.len F ≤ 9223372036854775807) : (Kd.row F).R v w := by
  obtain ⟨A, c, e, ho⟩ := h
  exact ⟨A, c, e, ho.args hn⟩
theorem row_newS {w : World} {S : Nat → Prop} (vs : List Value) (F : Fo) (n : Nat) (t : TypeId) (G : Option Nat) (hv : Vals (fun b => b < w.heap.size ∧ G ≠ some b) w vs F) (hn : Tm.len F = n) (h63 : n ≤ 1000) (hG : ∀ g, G = some g → g < w.heap.size) :
    (avR G F).R (.slice (some ⟨w.heap.size, 0, none⟩) n n) (w.alloc (.cells (tcells vs).toArray t)) := by
  subst hn
  refine ⟨some ⟨w.heap.size, 0, none⟩, Tm.len F, rfl, ?_⟩
  have hl := Vals.len vs F hv
  have hb := alloc_new w (.cells (tcells vs).toArray t)
  have hs : (w.alloc (.cells (tcells vs).toArray t)).heap.size = w.heap.size + 1 := World.size_alloc _ _
  rw [hs]
  have hv' : Vals (fun b => b < w.heap.size + 1 ∧ G ≠ some b) (w.alloc (.cells (tcells vs).toArray t)) vs F := Vals.mono (fun b h => ⟨Nat.lt_succ_of_lt h.1, h.2⟩) vs F (Vals.keep (fun b h => Below.heap_alloc w _ b h.1) vs F hv)
  have := Vals.args (b := w.heap.size) (o := 0) (S := fun b => b < w.heap.size + 1 ∧ G ≠ some b) ⟨by omega, fun e => by have := hG _ e; omega⟩ hv' (by omega) (fun j u hu => by
    rw [Nat.zero_add]
    rw [cell_of_row _ _ _ _ _ _ hb]
    simpa using hu)
  rw [hl] at this
  exact this
section
variable {ops : Array Oper} {Q : Exit → Act → World → Prop} {E : Nat → Kd} {D : Nat → Nat} {base : Nat → Option Kd} {N : Nat}
theorem Opd.av {i : Nat} {x : Operand} {F : Fo} {wz : World} {G : Option Nat} (hG : ∀ g, G = some g → wz.heap.size ≤ g) (h : Opd ops E D base N i x (.sat (oldP (.row F) wz))) : Opd ops E D base N i x (.sat (avR G F)) := fun a w hc => by
  obtain ⟨⟨A, c, e, ha⟩, hb⟩ := h a w hc
  exact ⟨A, c, e, (ha.below hb (Nat.le_refl _)).mono fun b (hb' : b < wz.heap.size) => ⟨Nat.lt_of_lt_of_le hb' hb.size, fun e => by have := hG _ e; omega⟩⟩
theorem step_row_at_av {i : Nat} {x y : Operand} {F l r : Fo} {k : Nat} {p : Pay} {G : Option Nat} (hop : (ops[i]?).map (·.op) = some (.indexAddr 22 x y)) (hx : Opd ops E D base N i x (.sat (avR G F))) (hy : Opd ops E D base N i y (.val (.int .i64 (k : Int)))) (hd : Tm.dropF F k = .node p l r) (hE : E i = .sat (avPt G p l)) : Step Tryd.prog ops Q E D base N i :=
  step_still hop hE fun a w h dst ty' pos after guard => by
    obtain ⟨A, c, e, ha⟩ := hx a w h
    have e' : a.eval y = .int .i64 (k : Int) := hy a w h
    have hk : k < Tm.len F := by
      have h1 := Tm.len_drop F k
      rw [hd] at h1
      have h2 : Tm.len (Fo.node p l r) = Tm.len r + 1 := rfl
      omega
    obtain ⟨b, o, p1, l1, r1, A1, c1, rfl, hb, hd', hn⟩ := ha.at hk
    rw [hd] at hd'
    cases hd'
    refine ⟨.pointer (some ⟨b, o + k * 4, none⟩), ?_, b, o + k * 4, A1, c1, rfl, hb.1, hn⟩
    generalize Tm.len F = n at e hk
    unfold execOp
    simp only [e, e']
    go_simp
theorem step_load_av {i : Nat} {x : Operand} {p : Pay} {l : Fo} {G : Option Nat} (hop : (ops[i]?).map (·.op) = some (.load 24 x)) (hx : Opd ops E D base N i x (.sat (avPt G p l))) (hE : E i = .sat (avT G p l)) : Step Tryd.prog ops Q E D base N i :=
  step_still hop hE fun a w h dst ty' pos after guard => by
    obtain ⟨b, o, A, c, e, hb, hn⟩ := hx a w h
    refine ⟨tv p A (Tm.len l) c, ?_, A, c, rfl, hn.inn⟩
    have h0 := hn.kind
    have h1 := hn.num
    have h2 := hn.name
    have h3 := hn.args
    generalize Tm.len l = n at h3
    unfold execOp
    simp only [e]
    go_simp
theorem step_n_av {i : Nat} {x : Operand} {n : Int} {G : Option Nat} (hop : (ops[i]?).map (·.op) = some (.call { callee := .value (.func 34), args := #[x], argTypes := #[2] })) (hx : Opd ops E D base N i x (.val (.int .i64 n))) (hE : E i = .sat (avT G (1, n, ByteArray.empty) .nil)) : Step Tryd.prog ops Q E D base N i :=
  step_call hop (fun _ _ => by kernel_rfl) fun a w h => by
    have ex : a.eval x = .int .i64 n := hx a w h
    rw [show (#[x] : Array Operand).map a.eval = #[.int .i64 n] by rw [← ex]; simp]
    exact (n_any n w).mono fun e w' ⟨he, hb⟩ => ⟨_, he, by rw [hE]; exact ⟨none, 0, rfl, ArgsIn.nil _ _ _⟩, hb⟩
theorem step_f_av {i : Nat} {x y : Operand} {s : ByteArray} {F : Fo} {G : Option Nat} (hop : (ops[i]?).map (·.op) = some (.call { callee := .value (.func 33), args := #[x, y], argTypes := #[9, 22] })) (hx : Opd ops E D base N i x (.val (.string s))) (hy : Opd ops E D base N i y (.sat (avR G F))) (hE : E i = .sat (avT G (3, 0, s) F)) : Step Tryd.prog ops Q E D base N i :=
  step_call hop (fun _ _ => by kernel_rfl) fun a w h => by
    have ex : a.eval x = .string s := hx a w h
    obtain ⟨A, c, ey, ha⟩ := hy a w h
    rw [show (#[x, y] : Array Operand).map a.eval = #[.string s, .slice A (Tm.len F) c] by rw [← ex, ← ey]; simp]
    exact (f_any s A (Tm.len F) c w).mono fun e w' ⟨he, hb⟩ => ⟨_, he, by rw [hE]; exact ⟨A, c, rfl, ((avR G F).keep (.slice A (Tm.len F) c) w w' ⟨A, c, rfl, ha⟩ hb).choose_spec.choose_spec.2 |> fun h => by
      have := (avR G F).keep (.slice A (Tm.len F) c) w w' ⟨A, c, rfl, ha⟩ hb
      obtain ⟨A2, c2, e2, h2⟩ := this
      cases e2
      exact h2⟩, hb⟩
theorem step_slice1_av {i ss : Nat} {x0 : Operand} {p0 : Pay} {l0 : Fo} {G : Option Nat} (hop : (ops[i]?).map (·.op) = some (.buildSlice 22 1 #[(0, x0)])) (h0 : Opd ops E D base N i x0 (.sat (avT G p0 l0))) (hG : Opd ops E D base N i (.tmp ss) (.sat (ltG G))) (hE : E i = .sat (avR G (.node p0 l0 .nil))) : Step Tryd.prog ops Q E D base N i := by
  intro o ho a w hc K hK
  have hxo := op_of ho hop
  obtain ⟨dst, op, ty, pos, after, guard⟩ := o
  have hx' : op = _ := hxo
  subst hx'
  obtain ⟨A0, c0, e0, ha0⟩ := h0 a w hc
  have hv : Vals (fun b => b < w.heap.size ∧ G ≠ some b) w [tv p0 A0 (Tm.len l0) c0] (.node p0 l0 .nil) := ⟨⟨A0, c0, rfl, ha0⟩, trivial⟩
  have hr := row_newS (S := fun _ => True) _ _ 1 24 G hv rfl (by decide) (hG a w hc)
  have hrun : (execOp a.eval ⟨dst, .buildSlice 22 1 #[(0, x0)], ty, pos, after, guard⟩).run Tryd.prog w = .ok (.value (.slice (some ⟨w.heap.size, 0, none⟩) 1 1)) (w.alloc (.cells (tcells [tv p0 A0 (Tm.len l0) c0]).toArray 24)) := by
    unfold execOp
    simp only [List.map_toArray, List.map_cons, List.map_nil, e0]
    go_simp
    rfl
  unfold Oper.wp
  rw [hrun]
  exact hK _ _ (by rw [hE]; exact hr) ((Below.refl _ _).alloc (Nat.le_refl _) _)
theorem step_slice2_av {i ss : Nat} {x0 x1 : Operand} {p0 p1 : Pay} {l0 l1 : Fo} {G : Option Nat} (hop : (ops[i]?).map (·.op) = some (.buildSlice 22 2 #[(0, x0), (1, x1)])) (h0 : Opd ops E D base N i x0 (.sat (avT G p0 l0))) (h1 : Opd ops E D base N i x1 (.sat (avT G p1 l1))) (hG : Opd ops E D base N i (.tmp ss) (.sat (ltG G))) (hE : E i = .sat (avR G (.node p0 l0 (.node p1 l1 .nil)))) : Step Tryd.prog ops Q E D base N i := by
  intro o ho a w hc K hK
  have hxo := op_of ho hop
  obtain ⟨dst, op, ty, pos, after, guard⟩ := o
  have hx' : op = _ := hxo
  subst hx'
  obtain ⟨A0, c0, e0, ha0⟩ := h0 a w hc
  obtain ⟨A1, c1, e1, ha1⟩ := h1 a w hc
  have hv : Vals (fun b => b < w.heap.size ∧ G ≠ some b) w [tv p0 A0 (Tm.len l0) c0, tv p1 A1 (Tm.len l1) c1] (.node p0 l0 (.node p1 l1 .nil)) := ⟨⟨A0, c0, rfl, ha0⟩, ⟨A1, c1, rfl, ha1⟩, trivial⟩
  have hr := row_newS (S := fun _ => True) _ _ 2 24 G hv rfl (by decide) (hG a w hc)
  have hrun : (execOp a.eval ⟨dst, .buildSlice 22 2 #[(0, x0), (1, x1)], ty, pos, after, guard⟩).run Tryd.prog w = .ok (.value (.slice (some ⟨w.heap.size, 0, none⟩) 2 2)) (w.alloc (.cells (tcells [tv p0 A0 (Tm.len l0) c0, tv p1 A1 (Tm.len l1) c1]).toArray 24)) := by
    unfold execOp
    simp only [List.map_toArray, List.map_cons, List.map_nil, e0, e1]
    go_simp
    rfl
  unfold Oper.wp
  rw [hrun]
  exact hK _ _ (by rw [hE]; exact hr) ((Below.refl _ _).alloc (Nat.le_refl _) _)
theorem step_ge_int64 {i : Nat} {x y : Operand} {m n : Int} {b : Bool} (hop : (ops[i]?).map (·.op) = some (.binOp .geq 2 x y 2)) (hx : Opd ops E D base N i x (.val (.int .i64 m))) (hy : Opd ops E D base N i y (.val (.int .i64 n))) (hb : (decide (n ≤ m)) = b) (hE : E i = .val (.bool b)) : Step Tryd.prog ops Q E D base N i :=
  step_still hop hE fun a w h dst ty' pos after guard => by
    have e : a.eval x = .int .i64 m := hx a w h
    have e' : a.eval y = .int .i64 n := hy a w h
    refine ⟨.bool b, ?_, rfl⟩
    rw [← hb]
    unfold execOp
    simp only [e, e']
    go_simp
end
theorem wp_append_terms {o : Oper} {a : Act} {Q : Exit → Act → World → Prop} {K : Act → World → Prop} {w : World} (s x : Operand) (ho : o.op = .call { callee := .builtin .append, args := #[s, x], argTypes := #[22, 22] })
    {N : Nat} {A0 : Option Addr} {n c0 : Nat} {F : Fo} (h : OwnR N w A0 n c0 F) (hs : a.eval s = .slice A0 n c0) {A : Option Addr} {m c : Nat} {G : Fo} (hx : a.eval x = .slice A m c)
    (hA : ArgsIn (fun b => b < w.heap.size ∧ (Value.slice A0 n c0).ownBlock ≠ some b) w A m G) (hb : n + m ≤ 100000)
    (hk : ∀ A' c' w', OwnR N w' A' (n + m) c' (Tm.app F G) → Below N w w' → (∀ b, b < w.heap.size → (Value.slice A0 n c0).ownBlock ≠ some b → w'.heap[b]? = w.heap[b]?) → K (a.put o.dst (.slice A' (n + m) c')) w') : o.wp Tryd.prog a w K Q := by
  obtain ⟨A', c', w', hr, h1, h2, h3⟩ := append_terms h hA hb o.type
  unfold Oper.wp
  simp [execOp, ho, resolve, invoke, builtin, hs, hx, Result.andThen]
  rw [hr]
  exact hk A' c' w' h1 h2 h3
end Go.Proofs.YtcjakmafojbhlaaDoor
namespace Go.Proofs.YtcjakmafojbhlaaDoor
set_option linter.unusedVariables false
set_option linter.unusedSimpArgs false
open Go.RowKit
section
variable {ops : Array Oper} {Q : Exit → Act → World → Prop}
theorem any_inv (m : Nat) (hm : m ≤ ops.size) (hlate : lateB ops m [] = true) (hed : edgesB ops = true) (I : (Nat → Bool) → Act → World → Prop)
    (hstep : ∀ (L : Nat → Bool) (a : Act) (w : World) (i : Nat) (o : Oper), i < m → ops[i]? = some o → L i = false → (∀ e ∈ o.after, Region.binds .any e = true → L e.on = true) → I L a w → wpOp Tryd.prog ops Q i (fun a' w' => I (fun j => if j = i then true else L j) a' w') a w)
    (hQ : ∀ (L : Nat → Bool) (a : Act) (w : World), (∀ j, j < m → L j = true) → I L a w → wpOps Tryd.prog ops Q (List.range' m (ops.size - m)) a w) :
    ∀ (fuel : Nat) (listed : Array Bool) (a : Act) (w : World), cnt ops.size listed ≤ fuel → listed.size = ops.size → Closed ops listed → (∀ j, m ≤ j → listed.getD j false = false) → I (fun j => listed.getD j false) a w → wpAny Tryd.prog .any ops Q fuel listed a w := by
  intro fuel
  induction fuel with
  | zero =>
    intro listed a w hc hl hcl hno st
    by_cases hfull : ∀ j, j < m → listed.getD j false = true
    · exact any_chain hlate hed (ops.size - m) m 0 listed a w (by omega) (Nat.le_refl _) hl hcl hfull hno (fun i h => by cases h) hc (hQ _ a w hfull st)
    · exfalso
      apply hfull
      intro j hj
      cases hb : listed.getD j false with
      | true => rfl
      | false =>
        have := cnt_pos (n := ops.size) (i := j) (listed := listed) (by omega) (by rw [getD_true_of_lt (by omega)]; exact hb)
        omega
  | succ fuel ih =>
    intro listed a w hc hl hcl hno st
    by_cases hfull : ∀ j, j < m → listed.getD j false = true
    · exact any_chain hlate hed (ops.size - m) m (fuel + 1) listed a w (by omega) (Nat.le_refl _) hl hcl hfull hno (fun i h => by cases h) hc (hQ _ a w hfull st)
    have hready : ∀ i, i ∈ Region.ready .any ops listed → i < m := by
      intro i hi
      rcases Nat.lt_or_ge i m with h | h
      · exact h
      · exfalso
        apply hfull
        intro j hj
        obtain ⟨hun, o, ho, hd⟩ := mem_ready.1 hi
        have hil : i < ops.size := (Array.getElem?_eq_some_iff.1 ho).1
        rcases lateB_spec hlate hil h (show j < i by omega) with h3 | h3
        · cases h3
        · exact waits_spec hcl 12 i j o ho hd h3
    have hsome : Region.ready .any ops listed ≠ [] := by
      intro hr
      apply hfull
      intro j
      induction j using Nat.strongRecOn with
      | ind j ihj =>
        intro hj
        cases hb : listed.getD j false with
        | true => rfl
        | false =>
          exfalso
          have ho : ops[j]? = some ops[j] := Array.getElem?_eq_getElem (by omega)
          have hmem : j ∈ Region.ready .any ops listed := mem_ready.2 ⟨by rw [getD_true_of_lt (by omega)]; exact hb, ops[j], ho, fun e he hbind => by
            have h1 := edgesB_spec hed ho e he hbind
            exact ihj e.on h1 (Nat.lt_trans h1 hj)⟩
          rw [hr] at hmem
          cases hmem
    refine ⟨fun hr => absurd hr hsome, fun i hi => ?_⟩
    have him := hready i hi
    obtain ⟨hun, o, ho, hdep⟩ := mem_ready.1 hi
    have hlt : i < ops.size := (Array.getElem?_eq_some_iff.1 ho).1
    have hif : listed.getD i false = false := by rw [← getD_true_of_lt (by omega)]; exact hun
    refine wpOp_mono (fun a' w' h => ih _ a' w' (by have := cnt_set hlt hl hun; omega) (by simpa using hl) (closed_set hcl hi) (fun j hj => by rw [getD_set_ne false (by omega)]; exact hno j hj) ?_) (hstep (fun j => listed.getD j false) a w i o him ho hif hdep st)
    have he : (fun j => if j = i then true else listed.getD j false) = fun j => (listed.setIfInBounds i true).getD j false := by
      funext j
      by_cases hji : j = i
      · subst hji
        have : j < listed.size := by omega
        simp [this]
      · rw [if_neg hji, getD_set_ne false (Ne.symm hji)]
    rw [← he]
    exact h
/-- A region that draws its order, by an invariant. -/
theorem region_inv {id n m : Nat} {a : Act} {w : World} (hn : ops.size = n) (hm : m ≤ n) (hlate : lateB ops m [] = true) (hed : edgesB ops = true) (I : (Nat → Bool) → Act → World → Prop)
    (h0 : I (fun _ => false) a { w with drawn := w.drawn + 1 })
    (hstep : ∀ (L : Nat → Bool) (a : Act) (w : World) (i : Nat) (o : Oper), i < m → ops[i]? = some o → L i = false → (∀ e ∈ o.after, Region.binds .any e = true → L e.on = true) → I L a w → wpOp Tryd.prog ops Q i (fun a' w' => I (fun j => if j = i then true else L j) a' w') a w)
    (hQ : ∀ (L : Nat → Bool) (a : Act) (w : World), (∀ j, j < m → L j = true) → I L a w → wpOps Tryd.prog ops Q (List.range' m (n - m)) a w) : (Code.region id ops true).wp Tryd.prog Q a w := by
  subst hn
  refine wp_region_any (by kernel_rfl) (any_inv m hm hlate hed I hstep hQ ops.size _ a _ ?_ (by simp) (closed_none _) (fun j _ => none_listed _ j) ?_)
  · unfold cnt
    exact Nat.le_trans (List.countP_le_length) (by simp)
  · have he : (fun j => (Array.replicate ops.size false).getD j false) = fun _ => false := by funext j; exact none_listed _ j
    rw [he]
    exact h0
/-- An operation that has no guard. -/
theorem wpOp_one {i : Nat} {o : Oper} {K : Act → World → Prop} {a : Act} {w : World} (ho : ops[i]? = some o) (hg : o.guard = none) (h : o.wp Tryd.prog a w K Q) : wpOp Tryd.prog ops Q i K a w := by
  unfold wpOp
  rw [ho]
  simp only [wanted_free hg, if_true]
  exact .inl h
end
end Go.Proofs.YtcjakmafojbhlaaDoor
namespace Go.Proofs.YtcjakmafojbhlaaDoor
set_option linter.unusedVariables false
set_option linter.unusedSimpArgs false
open Go.RowKit

/-- A row of the call's own, from N on; what its elements lead to lies below B. -/
structure OwnB (B N : Nat) (w : World) (A : Option Addr) (n c : Nat) (F : Fo) : Prop where
  own : ∃ vs, vs.length = n ∧ Vals (fun b => b < B) w vs F ∧ w.ownsRow N 24 4 (.slice A n c) n (tcells vs)
  lo : N ≤ w.heap.size
  le : B ≤ N
theorem OwnB.start {B N : Nat} {w : World} (h : N ≤ w.heap.size) (hB : B ≤ N) : OwnB B N w none 0 0 .nil := ⟨⟨[], rfl, trivial, World.ownsRow_nil w _ _ _⟩, h, hB⟩
theorem OwnB.len {B N : Nat} {w : World} {A : Option Addr} {n c : Nat} {F : Fo} (h : OwnB B N w A n c F) : Tm.len F = n := by
  obtain ⟨vs, h1, h2, _⟩ := h.own
  rw [← Vals.len vs F h2, h1]
theorem OwnB.lt {B N : Nat} {w : World} {A : Option Addr} {n c : Nat} {F : Fo} (h : OwnB B N w A n c F) {b : Nat} (hb : (Value.slice A n c).ownBlock = some b) : N ≤ b ∧ b < w.heap.size := by
  obtain ⟨vs, _, _, h3⟩ := h.own
  exact h3.lt b hb
theorem OwnB.only {B N : Nat} {w w' : World} {A : Option Addr} {n c : Nat} {F : Fo} (h : OwnB B N w A n c F) (hs : w.heap.size ≤ w'.heap.size) (hk : ∀ b, b < B ∨ (Value.slice A n c).ownBlock = some b → w'.heap[b]? = w.heap[b]?) : OwnB B N w' A n c F := by
  obtain ⟨vs, h1, h2, h3⟩ := h.own
  exact ⟨⟨vs, h1, Vals.keep (fun b hb => hk b (.inl hb)) vs F h2, ownsRow_same h3 fun g hg => hk g (.inr hg)⟩, Nat.le_trans h.lo hs, h.le⟩
theorem OwnB.below {B N : Nat} {w w' : World} {A : Option Addr} {n c : Nat} {F : Fo} (h : OwnB B N w A n c F) (hb : Below w.heap.size w w') : OwnB B N w' A n c F :=
  h.only hb.size fun b hb' => hb.block b (by rcases hb' with h1 | h1; exact Nat.lt_of_lt_of_le h1 (Nat.le_trans h.le h.lo); exact (h.lt h1).2)
/-- As a row: its own block from N on, the rest below B. -/
theorem OwnB.args {B N : Nat} {w : World} {A : Option Addr} {n c : Nat} {F : Fo} (h : OwnB B N w A n c F) (hn : n ≤ 9223372036854775807) : ArgsIn (fun b => b < w.heap.size ∧ (b < B ∨ N ≤ b)) w A n F := by
  obtain ⟨vs, h1, h2, h3⟩ := h.own
  by_cases h0 : n = 0
  · subst h0
    obtain rfl := Tm.len_zero h.len
    exact ArgsIn.nil _ _ _
  · obtain ⟨g, cap, e, hg1, hg2⟩ := h3.form (by omega)
    injection e with e1 e2 e3
    subst e1
    have hc := h3.cells (g := g) rfl
    have hlo := h.lo
    have hle := h.le
    have := Vals.args (b := g) (o := 0) (S := fun b => b < w.heap.size ∧ (b < B ∨ N ≤ b)) ⟨hg2, .inr hg1⟩ (h2.mono' fun b hb => ⟨by omega, .inl hb⟩) (by rw [h1]; exact hn) (fun j u hu => by
      have := hc j u hu
      rw [show (⟨g, 0, none⟩ : Addr).add j = ⟨g, 0 + j, none⟩ by unfold Addr.add; split <;> simp_all] at this
      exact this)
    rw [h1] at this
    exact this
/-- A row that is read: what its elements lead to lies below B. -/
structure SrcB (B : Nat) (w : World) (A : Option Addr) (n : Nat) (F : Fo) : Prop where
  len : Tm.len F = n
  row : 0 < n → ∃ b o, A = some ⟨b, o, none⟩ ∧ b < w.heap.size ∧ RowIn (fun b => b < B) w F b o
  le : B ≤ w.heap.size
theorem RowIn.at_keep {B : Nat} {w w' : World} : ∀ {F : Fo} {b o : Nat}, b < w.heap.size → Below w.heap.size w w' → B ≤ w.heap.size → RowIn (fun b => b < B) w F b o → RowIn (fun b => b < B) w' F b o
  | .nil, _, _, _, _, _, _ => trivial
  | .node p l r, b, o, hlt, hb, hB, ⟨h3, h4, h5, ⟨A, c, h6, hle, h7⟩, h8⟩ => by
    have hc : ∀ i, w'.cell? ⟨b, i, none⟩ = w.cell? ⟨b, i, none⟩ := fun i => cell_of_block (hb.block b hlt)
    refine ⟨(hc _).trans h3, (hc _).trans h4, (hc _).trans h5, ⟨A, c, (hc _).trans h6, hle, fun h => ?_⟩, RowIn.at_keep hlt hb hB h8⟩
    obtain ⟨b1, o1, e, hb1, hr⟩ := h7 h
    exact ⟨b1, o1, e, hb1, hr.keep (fun b (hb' : b < B) => hb.block b (by omega)) l b1 o1 hb1⟩
theorem SrcB.below {B : Nat} {w w' : World} {A : Option Addr} {n : Nat} {F : Fo} (h : SrcB B w A n F) (hb : Below w.heap.size w w') : SrcB B w' A n F :=
  ⟨h.len, fun h0 => by
    obtain ⟨b, o, e, hlt, hr⟩ := h.row h0
    refine ⟨b, o, e, Nat.lt_of_lt_of_le hlt hb.size, ?_⟩
    have hle := h.le
    exact RowIn.at_keep hlt hb hle hr, Nat.le_trans h.le hb.size⟩
theorem append_B {B N : Nat} {w : World} {A0 : Option Addr} {n c0 : Nat} {F : Fo} (h : OwnB B N w A0 n c0 F) {A : Option Addr} {m c : Nat} {G : Fo} (hA : SrcB B w A m G) (hb : n + m ≤ 100000) (ty : TypeId) :
    ∃ A' c' w', (Builtin.append_ #[22, 22] ty #[.slice A0 n c0, .slice A m c]).run Tryd.prog w = .ok (.slice A' (n + m) c') w' ∧ OwnB B N w' A' (n + m) c' (Tm.app F G) ∧ Below N w w' := by
  obtain ⟨i0, hi0, hz0, hz1, hz2⟩ := term_parts
  obtain ⟨vs, h1, h2, h3⟩ := h.own
  by_cases h0 : m = 0
  · subst h0
    obtain rfl := Tm.len_zero hA.len
    have hcap : n ≤ c0 := by
      rcases h3.2 with ⟨e, hn0⟩ | ⟨g, cap, cur, e, _, _, hc, _⟩
      · omega
      · cases e; exact hc
    refine ⟨A0, c0, w, ?_, by rw [Tm.app_nil, Nat.add_zero]; exact h, Below.refl _ _⟩
    rw [Nat.add_zero]
    cases A with
    | none => exact run_append_nothing w 22 22 ty 24 i0 Tryd.underlying22 hi0 A0 n c0 hcap _ (Src.ofNil w Tryd.underlying22 c)
    | some ad => exact run_append_nothing w 22 22 ty 24 i0 Tryd.underlying22 hi0 A0 n c0 hcap _ (Src.ofSlice w Tryd.underlying22 ad 0 c [] (by simp) (by simp) (by simp))
  · obtain ⟨bk, of, rfl, hbk, hrow⟩ := hA.row (by omega)
    obtain ⟨us, hu, hcu⟩ := RowIn.vals G bk of hrow
    have hul : us.length = m := by rw [Vals.len us G hu, hA.len]
    have hlo := h.lo
    have hle := h.le
    obtain ⟨g, cap, w', hr, hown, hgrow, hat, hlt⟩ := run_append_lies (P := Tryd.prog) (w := w) 22 ty N 24 i0 (tv zp none 0 0) 4 56 Tryd.underlying22 hi0 hz0 hz1 hz2 rfl (by decide) (.slice A0 n c0) n (tcells vs) h3 ⟨bk, of, none⟩ m c (tcells us)
      (by rw [Vals.tcells_len us G hu, hul]) (fun j u hj => by
        rw [show (⟨bk, of, none⟩ : Addr).add j = ⟨bk, of + j, none⟩ by unfold Addr.add; split <;> simp_all]
        exact hcu j u hj) (Vals.one us G hu) (by omega) (Nat.le_trans hb (by decide)) (by omega) h.lo w.heap.size rfl
    have hbl : ∀ b, b < N → w'.heap[b]? = w.heap[b]? := fun b hb' => hgrow.block b (by omega) fun e => by have := h3.lt b e.symm; omega
    refine ⟨some ⟨g, 0, none⟩, cap, w', hr, ⟨⟨vs ++ us, by rw [List.length_append, h1, hul], ?_, by rw [tcells_app]; exact hown⟩, Nat.le_trans h.lo hgrow.size, h.le⟩, ⟨hgrow.os, hgrow.tape, hgrow.output, hgrow.size, hbl⟩⟩
    exact Vals.app vs us F G (Vals.keep (fun b (hb' : b < B) => hbl b (by omega)) vs F h2) (Vals.keep (fun b (hb' : b < B) => hbl b (by omega)) us G hu)
theorem wp_append_B {o : Oper} {a : Act} {Q : Exit → Act → World → Prop} {K : Act → World → Prop} {w : World} (s x : Operand) (ho : o.op = .call { callee := .builtin .append, args := #[s, x], argTypes := #[22, 22] })
    {B N : Nat} {A0 : Option Addr} {n c0 : Nat} {F : Fo} (h : OwnB B N w A0 n c0 F) (hs : a.eval s = .slice A0 n c0) {A : Option Addr} {m c : Nat} {G : Fo} (hx : a.eval x = .slice A m c)
    (hA : SrcB B w A m G) (hb : n + m ≤ 100000) (hk : ∀ A' c' w', OwnB B N w' A' (n + m) c' (Tm.app F G) → Below N w w' → K (a.put o.dst (.slice A' (n + m) c')) w') : o.wp Tryd.prog a w K Q := by
  obtain ⟨A', c', w', hr, h1, h2⟩ := append_B h hA hb o.type
  unfold Oper.wp
  simp [execOp, ho, resolve, invoke, builtin, hs, hx, Result.andThen]
  rw [hr]
  exact hk A' c' w' h1 h2
/-! ### kinds -/
def bT (B : Nat) (p : Pay) (l : Fo) : Pd where
  R := fun v w => ∃ A c, v = tv p A (Tm.len l) c ∧ ArgsB w B A (Tm.len l) l ∧ B ≤ w.heap.size
  keep := by
    rintro v w w' ⟨A, c, e, h, hB⟩ hb
    exact ⟨A, c, e, h.below hb hB, Nat.le_trans hB hb.size⟩
def bPt (B : Nat) (p : Pay) (l : Fo) : Pd where
  R := fun v w => ∃ b o A c, v = .pointer (some ⟨b, o, none⟩) ∧ b < w.heap.size ∧ B ≤ w.heap.size ∧ NodeAt (fun b => b < B) w b o p l A c
  keep := by
    rintro v w w' ⟨b, o, A, c, e, hlt, hB, hn⟩ hb
    exact ⟨b, o, A, c, e, Nat.lt_of_lt_of_le hlt hb.size, Nat.le_trans hB hb.size, hn.keep (hb.block _ hlt) (fun b (hb' : b < B) => hb.block b (by omega)) (fun b h => h)⟩
def bR (B : Nat) (F : Fo) : Pd where
  R := fun v w => ∃ A c, v = .slice A (Tm.len F) c ∧ SrcB B w A (Tm.len F) F
  keep := by
    rintro v w w' ⟨A, c, e, h⟩ hb
    exact ⟨A, c, e, h.below hb⟩
section
variable {ops : Array Oper} {Q : Exit → Act → World → Prop} {E : Nat → Kd} {D : Nat → Nat} {base : Nat → Option Kd} {N : Nat}
theorem step_load_cellT {i : Nat} {x : Operand} {pc : Nat} {v : Value} {A : Option Addr} {n c : Nat} (hv : v = .slice A n c) (hop : (ops[i]?).map (·.op) = some (.load 22 x)) (hx : Opd ops E D base N i x (.sat (cellP pc v))) (hE : E i = .val v) : Step Tryd.prog ops Q E D base N i :=
  step_still hop hE fun a w h dst ty' pos after guard => by
    subst hv
    obtain ⟨e, hlt, hc⟩ := hx a w h
    refine ⟨.slice A n c, ?_, rfl⟩
    unfold execOp
    simp only [e]
    go_simp
theorem step_load_cellI {i : Nat} {x : Operand} {pc : Nat} {n : Int} (hop : (ops[i]?).map (·.op) = some (.load 3 x)) (hx : Opd ops E D base N i x (.sat (cellP pc (.int .i64 n)))) (hE : E i = .val (.int .i64 n)) : Step Tryd.prog ops Q E D base N i :=
  step_still hop hE fun a w h dst ty' pos after guard => by
    obtain ⟨e, hlt, hc⟩ := hx a w h
    refine ⟨.int .i64 n, ?_, rfl⟩
    unfold execOp
    simp only [e]
    go_simp
theorem step_box_b {i : Nat} {x : Operand} {B : Nat} {p : Pay} {l : Fo} (hop : (ops[i]?).map (·.op) = some (.box 24 x)) (hx : Opd ops E D base N i x (.sat (bT B p l))) (hE : E i = .sat (bPt B p l)) : Step Tryd.prog ops Q E D base N i := by
  intro o ho a w hc K hK
  have hxo := op_of ho hop
  obtain ⟨dst, op, ty, pos, after, guard⟩ := o
  have hx' : op = _ := hxo
  subst hx'
  obtain ⟨A, c, e, ha, hB⟩ := hx a w hc
  have ht := TermAt.new w p A (Tm.len l) c 24
  have hrun : (execOp a.eval ⟨dst, .box 24 x, ty, pos, after, guard⟩).run Tryd.prog w = .ok (.value (.pointer (some ⟨w.heap.size, 0, none⟩))) (w.alloc (.cells #[.int .i64 p.1, .int .i64 p.2.1, .string p.2.2, .slice A (Tm.len l) c] 24)) := by
    generalize Tm.len l = n at e
    unfold execOp
    simp only [e]
    go_simp
  unfold Oper.wp
  rw [hrun]
  have hb : Below w.heap.size w (w.alloc (.cells #[.int .i64 p.1, .int .i64 p.2.1, .string p.2.2, .slice A (Tm.len l) c] 24)) := (Below.refl _ _).alloc (Nat.le_refl _) _
  refine hK _ _ ?_ hb
  rw [hE]
  exact ⟨w.heap.size, 0, A, c, rfl, by rw [World.size_alloc]; omega, by rw [World.size_alloc]; omega, ht.kind, ht.num, ht.name, ht.args, ha.below hb hB⟩
theorem step_load_b {i : Nat} {x : Operand} {B : Nat} {p : Pay} {l : Fo} (hop : (ops[i]?).map (·.op) = some (.load 24 x)) (hx : Opd ops E D base N i x (.sat (bPt B p l))) (hE : E i = .sat (bT B p l)) : Step Tryd.prog ops Q E D base N i :=
  step_still hop hE fun a w h dst ty' pos after guard => by
    obtain ⟨b, o, A, c, e, hb, hB, hn⟩ := hx a w h
    refine ⟨tv p A (Tm.len l) c, ?_, A, c, rfl, hn.inn, hB⟩
    have h0 := hn.kind
    have h1 := hn.num
    have h2 := hn.name
    have h3 := hn.args
    generalize Tm.len l = n at h3
    unfold execOp
    simp only [e]
    go_simp
theorem step_slice1_b {i : Nat} {x0 : Operand} {B : Nat} {p0 : Pay} {l0 : Fo} (hop : (ops[i]?).map (·.op) = some (.buildSlice 22 1 #[(0, x0)])) (h0 : Opd ops E D base N i x0 (.sat (bT B p0 l0))) (hE : E i = .sat (bR B (.node p0 l0 .nil))) : Step Tryd.prog ops Q E D base N i := by
  intro o ho a w hc K hK
  have hxo := op_of ho hop
  obtain ⟨dst, op, ty, pos, after, guard⟩ := o
  have hx' : op = _ := hxo
  subst hx'
  obtain ⟨A0, c0, e0, ha0, hB⟩ := h0 a w hc
  have hrun : (execOp a.eval ⟨dst, .buildSlice 22 1 #[(0, x0)], ty, pos, after, guard⟩).run Tryd.prog w = .ok (.value (.slice (some ⟨w.heap.size, 0, none⟩) 1 1)) (w.alloc (.cells #[.int .i64 p0.1, .int .i64 p0.2.1, .string p0.2.2, .slice A0 (Tm.len l0) c0] 24)) := by
    unfold execOp
    simp only [List.map_toArray, List.map_cons, List.map_nil, e0]
    go_simp
  have ht := TermAt.new w p0 A0 (Tm.len l0) c0 24
  have hb : Below w.heap.size w (w.alloc (.cells #[.int .i64 p0.1, .int .i64 p0.2.1, .string p0.2.2, .slice A0 (Tm.len l0) c0] 24)) := (Below.refl _ _).alloc (Nat.le_refl _) _
  have ha := ha0.below hb hB
  unfold Oper.wp
  rw [hrun]
  refine hK _ _ ?_ hb
  rw [hE]
  exact ⟨some ⟨w.heap.size, 0, none⟩, 1, rfl, rfl, fun _ => ⟨w.heap.size, 0, rfl, by rw [World.size_alloc]; omega, ht.kind, ht.num, ht.name, ⟨A0, c0, ht.args, ha.hi, ha.row⟩, trivial⟩, by rw [World.size_alloc]; omega⟩
end
/-! ### slices of a row -/
theorem run_slice_to {a : Act} {x y : Operand} {dst : Option Tmp} {ty : TypeId} {pos : String} {after : Array Edge} {guard : Option (Nat × Bool)} (w : World) (A : Option Addr) (n c i : Nat) (hx : a.eval x = .slice A n c) (hy : a.eval y = .int .i64 (i : Int)) (hi : i ≤ n) (hn : n ≤ c) (hA : A = none → c = 0) (hc : c ≤ 9223372036854775807) :
    (execOp a.eval ⟨dst, .slice 22 x none (some y) none, ty, pos, after, guard⟩).run Tryd.prog w = .ok (.value (.slice A i c)) w := by
  cases A with
  | none =>
    obtain rfl := hA rfl
    obtain rfl : n = 0 := by omega
    obtain rfl : i = 0 := by omega
    unfold execOp
    simp only [hx, hy, Option.map]
    go_simp
  | some ad =>
    unfold execOp
    simp only [hx, hy, Option.map]
    go_simp
    intro h
    omega
theorem run_slice_from {a : Act} {x y : Operand} {dst : Option Tmp} {ty : TypeId} {pos : String} {after : Array Edge} {guard : Option (Nat × Bool)} (w : World) (A : Option Addr) (n c i : Nat) (hx : a.eval x = .slice A n c) (hy : a.eval y = .int .i64 (i : Int)) (hi : i ≤ n) (hn : n ≤ c) (hA : A = none → c = 0) (hA2 : ∀ ad, A = some ad → ad.spot = none) (hc : c ≤ 9223372036854775807) :
    ∃ A', (execOp a.eval ⟨dst, .slice 22 x (some y) none none, ty, pos, after, guard⟩).run Tryd.prog w = .ok (.value (.slice A' (n - i) (c - i))) w ∧ (i < n → ∀ b o, A = some ⟨b, o, none⟩ → A' = some ⟨b, o + i * 4, none⟩) := by
  cases A with
  | none =>
    obtain rfl := hA rfl
    obtain rfl : n = 0 := by omega
    obtain rfl : i = 0 := by omega
    refine ⟨none, ?_, fun h => by omega⟩
    unfold execOp
    simp only [hx, hy, Option.map]
    go_simp
  | some ad =>
    obtain ⟨b, o, spot⟩ := ad
    have hsp := hA2 _ rfl
    have hsp' : spot = none := hsp
    subst hsp'
    by_cases hic : i = c
    · subst hic
      refine ⟨some ⟨b, o, none⟩, ?_, fun h => by omega⟩
      obtain rfl : n = i := by omega
      unfold execOp
      simp only [hx, hy, Option.map]
      go_simp
    · refine ⟨some ⟨b, o + i * 4, none⟩, ?_, fun h b' o' e => by cases e; rfl⟩
      have h1 : i < c := by omega
      unfold execOp
      simp only [hx, hy, Option.map]
      go_simp
      intro h
      omega
end Go.Proofs.YtcjakmafojbhlaaDoor
namespace Go.Proofs.YtcjakmafojbhlaaDoor
set_option linter.unusedVariables false
set_option linter.unusedSimpArgs false
open Go.RowKit
noncomputable def bd0Ops : Array Oper := ((Tryd.f29.body).bind (findReg 0)).getD #[]
noncomputable def bd1Ops : Array Oper := ((Tryd.f29.body).bind (findReg 1)).getD #[]
noncomputable def bd2Ops : Array Oper := ((Tryd.f29.body).bind (findReg 2)).getD #[]
noncomputable def bd3Ops : Array Oper := ((Tryd.f29.body).bind (findReg 3)).getD #[]
noncomputable def bd4Ops : Array Oper := ((Tryd.f29.body).bind (findReg 4)).getD #[]
theorem bd_body : Tryd.f29.body = some (.seq (.region 0 bd0Ops false) (.seq (.region 1 bd1Ops false) (.seq (.region 2 bd2Ops false) (.seq (.region 3 bd3Ops false) (.seq (.region 4 bd4Ops true) .ret))))) := by kernel_rfl
theorem ops_at {ops : Array Oper} {Q : Exit → Act → World → Prop} {i : Nat} {X : Op} {d : Option Tmp} {rest : List Nat} {a : Act} {w : World} (h : (ops[i]?).map (fun o => (o.op, o.dst, o.guard)) = some (X, d, none))
    (hk : ∀ ty pos after, Oper.wp Tryd.prog ⟨d, X, ty, pos, after, none⟩ a w (wpOps Tryd.prog ops Q rest) Q) : wpOps Tryd.prog ops Q (i :: rest) a w := by
  cases ho : ops[i]? with
  | none => rw [ho] at h; cases h
  | some o =>
    rw [ho] at h
    have h := Option.some.inj h
    obtain ⟨dst, op, ty, pos, after, guard⟩ := o
    simp only [Prod.mk.injEq] at h
    obtain ⟨e1, e2, e3⟩ := h
    subst e1 e2 e3
    exact wpOps_one ho rfl (hk ty pos after)
theorem op_at {ops : Array Oper} {Q : Exit → Act → World → Prop} {i : Nat} {X : Op} {d : Option Tmp} {K : Act → World → Prop} {a : Act} {w : World} (h : (ops[i]?).map (fun o => (o.op, o.dst, o.guard)) = some (X, d, none))
    (hk : ∀ ty pos after, Oper.wp Tryd.prog ⟨d, X, ty, pos, after, none⟩ a w K Q) : wpOp Tryd.prog ops Q i K a w := by
  cases ho : ops[i]? with
  | none => rw [ho] at h; cases h
  | some o =>
    rw [ho] at h
    have h := Option.some.inj h
    obtain ⟨dst, op, ty, pos, after, guard⟩ := o
    simp only [Prod.mk.injEq] at h
    obtain ⟨e1, e2, e3⟩ := h
    subst e1 e2 e3
    exact wpOp_one ho rfl (hk ty pos after)
theorem run_load_rowv {a : Act} {x : Operand} {dst : Option Tmp} {ty : TypeId} {pos : String} {after : Array Edge} {guard : Option (Nat × Bool)} (w : World) (b : Nat) (A : Option Addr) (n c : Nat) (hx : a.eval x = .pointer (some ⟨b, 0, none⟩)) (hc : w.cell? ⟨b, 0, none⟩ = some (.slice A n c)) :
    (execOp a.eval ⟨dst, .load 22 x, ty, pos, after, guard⟩).run Tryd.prog w = .ok (.value (.slice A n c)) w := by
  unfold execOp
  simp only [hx]
  go_simp
theorem run_load_intv {a : Act} {x : Operand} {dst : Option Tmp} {ty : TypeId} {pos : String} {after : Array Edge} {guard : Option (Nat × Bool)} (w : World) (b : Nat) (n : Int) (hx : a.eval x = .pointer (some ⟨b, 0, none⟩)) (hc : w.cell? ⟨b, 0, none⟩ = some (.int .i64 n)) :
    (execOp a.eval ⟨dst, .load 3 x, ty, pos, after, guard⟩).run Tryd.prog w = .ok (.value (.int .i64 n)) w := by
  unfold execOp
  simp only [hx]
  go_simp
theorem run_load_strv {a : Act} {x : Operand} {dst : Option Tmp} {ty : TypeId} {pos : String} {after : Array Edge} {guard : Option (Nat × Bool)} (w : World) (b : Nat) (s : ByteArray) (hx : a.eval x = .pointer (some ⟨b, 0, none⟩)) (hc : w.cell? ⟨b, 0, none⟩ = some (.string s)) :
    (execOp a.eval ⟨dst, .load 9 x, ty, pos, after, guard⟩).run Tryd.prog w = .ok (.value (.string s)) w := by
  unfold execOp
  simp only [hx]
  go_simp
theorem run_build3 {a : Act} {y z : Operand} {dst : Option Tmp} {ty : TypeId} {pos : String} {after : Array Edge} {guard : Option (Nat × Bool)} (w : World) (s : ByteArray) (A : Option Addr) (n c : Nat) (hy : a.eval y = .string s) (hz : a.eval z = .slice A n c) :
    (execOp a.eval ⟨dst, .build 24 #[(0, .const (.int .i64 3)), (2, y), (3, z)], ty, pos, after, guard⟩).run Tryd.prog w = .ok (.value (tv (3, 0, s) A n c)) w := by
  unfold execOp
  simp only [List.map_toArray, List.map_cons, List.map_nil, hy, hz]
  go_simp
theorem run_store_new {a : Act} {x y : Operand} {ty : TypeId} {pos : String} {after : Array Edge} {guard : Option (Nat × Bool)} (w : World) (g : Nat) (p : Pay) (A : Option Addr) (n c : Nat) (hx : a.eval x = .pointer (some ⟨g, 0, none⟩)) (hy : a.eval y = tv p A n c) (hf : ResAt w g) :
    (execOp a.eval ⟨none, .store 24 x y, ty, pos, after, guard⟩).run Tryd.prog w = .ok .skip (set4 w g 0 p A n c) := by
  have f0 := hf.s.s0
  have f1 := hf.s.s1
  have f2 := hf.s.s2
  have f3 := hf.s.s3
  have y0 := hf.t.kind
  have y1 := hf.t.num
  have y2 := hf.t.name
  have y3 := hf.t.args
  clear hf
  unfold execOp
  simp only [hx, hy]
  go_simp
def resAtP (r : Nat) : Pd where
  R := fun _ w => r < w.heap.size ∧ ResAt w r
  keep := fun _ _ _ h hb => ⟨Nat.lt_of_lt_of_le h.1 hb.size, h.2.below hb h.1⟩
def lrowP (B : Nat) (A : Option Addr) (n : Nat) (L : Fo) : Pd where
  R := fun _ w => ArgsB w B A n L ∧ B ≤ w.heap.size
  keep := fun _ _ _ h hb => ⟨h.1.below hb h.2, Nat.le_trans h.2 hb.size⟩
/-- Facts that hold in old memory, kept whatever is done to newer blocks. -/
abbrev oldEnv (env : Env) (w1 : World) : Env := env.map fun e => (e.1, Kd.sat (oldP e.2 w1))
theorem look_old (env : Env) (w1 : World) (t : Nat) : look (oldEnv env w1) t = (look env t).map fun k => Kd.sat (oldP k w1) := by
  induction env with
  | nil => rfl
  | cons x xs ih =>
    obtain ⟨d, k0⟩ := x
    show look ((d, _) :: oldEnv xs w1) t = _
    rw [look_cons, look_cons, ih]
    split <;> rfl
theorem Hold.olds {N : Nat} {env : Env} {w0 w : World} {a : Act} (h : Hold N env w0 a w) : Hold N (oldEnv env w) w a w := by
  refine ⟨h.size, h.defers, Below.refl _ _, fun t k hk => ?_⟩
  rw [look_old] at hk
  obtain ⟨k1, h1, rfl⟩ := Option.map_eq_some_iff.1 hk
  exact ⟨h.slots t k1 h1, Below.refl _ _⟩
theorem Hold.later {N : Nat} {env : Env} {w1 w w' : World} {a a' : Act} (h : Hold N (oldEnv env w1) w1 a w) (hs : a'.tmps.size = N) (hd : a'.defers = []) (hb : Below w1.heap.size w1 w') (hv : ∀ t k, look env t = some k → a'.tmps.getD t undef = a.tmps.getD t undef) : Hold N (oldEnv env w1) w1 a' w' := by
  refine ⟨hs, hd, hb, fun t k hk => ?_⟩
  have hk2 := hk
  rw [look_old] at hk2
  obtain ⟨k1, h1, rfl⟩ := Option.map_eq_some_iff.1 hk2
  rw [hv t k1 h1]
  exact ⟨(h.slots t _ hk).1, hb⟩
/-- An append to the row in slot 6, and its assignment. -/
theorem bd_app {ops : Array Oper} {Q : Exit → Act → World → Prop} {N k x y d m ny B : Nat} {env : Env} {w1 w : World} {a : Act} {A6 Ay : Option Addr} {c6 cy : Nat} {F G : Fo}
    (hop1 : (ops[k]?).map (fun o => (o.op, o.dst, o.guard)) = some (.call { callee := .builtin .append, args := #[.tmp x, .tmp y], argTypes := #[22, 22] }, some d, none)) (hop2 : (ops[k + 1]?).map (fun o => (o.op, o.dst, o.guard)) = some (.assign (.tmp d), some 6, none))
    (hx : a.tmps.getD x undef = .slice A6 m c6) (hy : a.tmps.getD y undef = .slice Ay ny cy) (ho : OwnB B w1.heap.size w A6 m c6 F) (hsrc : SrcB B w Ay ny G) (hb : m + ny ≤ 100000) (hd : d < N) (h6 : 6 < N)
    (hold : Hold N (oldEnv env w1) w1 a w) (hne : ∀ t k, look env t = some k → t ≠ d ∧ t ≠ 6)
    (hQ : ∀ A' c' a' w', Hold N (oldEnv env w1) w1 a' w' → a'.tmps.getD 6 undef = .slice A' (m + ny) c' → OwnB B w1.heap.size w' A' (m + ny) c' (Tm.app F G) → Q .normal a' w') : wpOps Tryd.prog ops Q [k, k + 1] a w := by
  refine ops_at hop1 fun ty pos after => wp_append_B (.tmp x) (.tmp y) rfl ho hx hy hsrc hb fun A' c' w' o' b' => ?_
  refine ops_at hop2 fun ty pos after => wp_assign_op ?_
  have hs := hold.size
  have ev : (a.put (some d) (.slice A' (m + ny) c')).eval (.tmp d) = .slice A' (m + ny) c' := put_self (by omega)
  rw [ev]
  refine hQ A' c' _ _ (hold.later (put_size.trans (put_size.trans hs)) hold.defers (hold.world.trans b') fun t k hk => ?_) (put_self (by rw [put_size]; omega)) o'
  exact (put_other (hne t k hk).2).trans (put_other (hne t k hk).1)
def bdOld (name : ByteArray) (Lr : Fo) (i n c : Nat) (A : Option Addr) (p : Pay) (l : Fo) (pl pi pn B r : Nat) : Env := [(1, Kd.sat (cellP pl (.slice A n c))), (2, .sat (cellP pi (.int .i64 (i : Int)))), (3, .sat (cellP pn (.string name))), (4, .sat (bPt B p l)), (5, .val (.pointer (some ⟨r, 0, none⟩))), (991, .sat (lrowP B A n Lr)), (992, .sat (resAtP r))]
theorem bdOld_ne {name : ByteArray} {Lr l : Fo} {i n c pl pi pn B r : Nat} {A : Option Addr} {p : Pay} {d : Nat} (hd : 6 < d) (hd2 : d < 990) : ∀ t k, look (bdOld name Lr i n c A p l pl pi pn B r) t = some k → t ≠ d ∧ t ≠ 6 := by
  intro t k hk
  unfold look bdOld at hk
  obtain ⟨e, he, _⟩ := Option.map_eq_some_iff.1 hk
  have h1 := List.find?_some he
  have h2 := List.mem_of_find?_eq_some he
  have h3 : e.1 = t := by simpa using h1
  simp only [List.mem_cons, List.not_mem_nil, or_false] at h2
  rcases h2 with rfl | rfl | rfl | rfl | rfl | rfl | rfl <;> (subst h3; dsimp only; omega)
/-- One operation; the other slots stay. -/
theorem env_one' {ops : Array Oper} {Q : Exit → Act → World → Prop} {N : Nat} {env : Env} {w0 w : World} {a : Act} {i d : Nat} {k : Kd} {rest : List Nat} (hs : EnvStep ops Q N env i k) (hd : (ops[i]?).map (fun o => (o.dst, o.guard)) = some (some d, none)) (hN : d < N) (st : Hold N env w0 a w)
    (h : ∀ a' w', Hold N ((d, k) :: env) w0 a' w' → (∀ t, t ≠ d → a'.tmps.getD t undef = a.tmps.getD t undef) → wpOps Tryd.prog ops Q rest a' w') : wpOps Tryd.prog ops Q (i :: rest) a w := by
  cases ho : ops[i]? with
  | none => rw [ho] at hd; cases hd
  | some o =>
    rw [ho] at hd
    have hd := Option.some.inj hd
    simp only [Prod.mk.injEq] at hd
    refine wpOps_one ho hd.2 (hs o ho a w ⟨st.size, st.slots, fun j o' _ hji _ => ?_⟩ _ fun v w' hv hb => ?_)
    · rw [if_neg (by omega)]; trivial
    · rw [hd.1]
      have hv : (if i = i then k else Kd.any).R v w' := hv
      rw [if_pos rfl] at hv
      exact h _ _ (st.put hN hv hb) fun t ht => put_other ht
def newResP (w0 : World) : Pd where
  R := fun v w => ∃ r, v = .pointer (some ⟨r, 0, none⟩) ∧ w0.heap.size ≤ r ∧ r < w.heap.size ∧ ResAt w r
  keep := by
    rintro v w w' ⟨r, e, h1, h2, h3⟩ hb
    exact ⟨r, e, h1, Nat.lt_of_lt_of_le h2 hb.size, h3.below hb h2⟩
def ownBP (B N0 : Nat) (A : Option Addr) (n c : Nat) (F : Fo) : Pd where
  R := fun _ w => OwnB B N0 w A n c F
  keep := fun _ _ _ h hb => h.below hb
theorem bd2_region {Q : Exit → Act → World → Prop} (name : ByteArray) (Lr : Fo) (i n c : Nat) (A : Option Addr) (p : Pay) (l : Fo) (pl pi pn B r : Nat) (w1 : World) (hi : i ≤ n) (hn : n ≤ c) (hn7 : n ≤ 7) (hc : c ≤ 9223372036854775807) (hA : A = none → c = 0) {a : Act} {w : World} (h : Hold 23 (oldEnv (bdOld name Lr i n c A p l pl pi pn B r) w1) w1 a w) (h6 : a.tmps.getD 6 undef = .slice none 0 0) (hBw : B ≤ w1.heap.size)
    (hQ : ∀ A' c' a' w', Hold 23 (oldEnv (bdOld name Lr i n c A p l pl pi pn B r) w1) w1 a' w' → a'.tmps.getD 6 undef = .slice A' i c' → OwnB B w1.heap.size w' A' i c' (Tm.takeF Lr i) → Q .normal a' w') : (Code.region 2 bd2Ops false).wp Tryd.prog Q a w := by
  refine region_seq (w0 := w) 6 (by kernel_rfl) ?_
  rw [show List.range 6 = [0, 1, 2, 3, 4, 5] from rfl]
  obtain ⟨hc1, hlt1, hl1⟩ := oldP.to (k := .sat (cellP pl (.slice A n c))) (h.get 1 rfl)
  obtain ⟨hc2, hlt2, hl2⟩ := oldP.to (k := .sat (cellP pi (.int .i64 (i : Int)))) (h.get 2 rfl)
  obtain ⟨hrow, hB⟩ := oldP.to (k := .sat (lrowP B A n Lr)) (h.get 991 rfl)
  have hs := h.size
  refine ops_at (X := .move (.tmp 6)) (d := some 7) (by kernel_rfl) fun ty pos after => wp_run (v := .slice none 0 0) (by rw [← h6]; rfl) ?_
  refine ops_at (X := .load 22 (.tmp 1)) (d := some 8) (by kernel_rfl) fun ty pos after => wp_run (run_load_rowv w pl A n c ((put_other (by decide)).trans hc1) hl1) ?_
  refine ops_at (X := .load 3 (.tmp 2)) (d := some 9) (by kernel_rfl) fun ty pos after => wp_run (run_load_intv w pi i ((put_other (by decide)).trans ((put_other (by decide)).trans hc2)) hl2) ?_
  refine ops_at (X := .slice 22 (.tmp 8) none (some (.tmp 9)) none) (d := some 10) (by kernel_rfl) fun ty pos after => wp_run (run_slice_to w A n c i ((put_other (by decide)).trans (put_self (by rw [put_size]; omega))) (put_self (by rw [put_size, put_size]; omega)) hi hn hA hc) ?_
  have e7 : ((((a.put (some 7) (.slice none 0 0)).put (some 8) (.slice A n c)).put (some 9) (.int .i64 (i : Int))).put (some 10) (.slice A i c)).tmps.getD 7 undef = .slice none 0 0 := (put_other (by decide)).trans ((put_other (by decide)).trans ((put_other (by decide)).trans (put_self (by omega))))
  have e10 : ((((a.put (some 7) (.slice none 0 0)).put (some 8) (.slice A n c)).put (some 9) (.int .i64 (i : Int))).put (some 10) (.slice A i c)).tmps.getD 10 undef = .slice A i c := put_self (by rw [put_size, put_size, put_size]; omega)
  have hh := h.later (a' := (((a.put (some 7) (.slice none 0 0)).put (some 8) (.slice A n c)).put (some 9) (.int .i64 (i : Int))).put (some 10) (.slice A i c)) (w' := w) (put_size.trans (put_size.trans (put_size.trans (put_size.trans hs)))) h.defers h.world fun t k hk => (put_other (bdOld_ne (d := 10) (by decide) (by decide) t k hk).1).trans ((put_other (bdOld_ne (d := 9) (by decide) (by decide) t k hk).1).trans ((put_other (bdOld_ne (d := 8) (by decide) (by decide) t k hk).1).trans (put_other (bdOld_ne (d := 7) (by decide) (by decide) t k hk).1)))
  have hsrc : SrcB B w A i (Tm.takeF Lr i) := by
    refine ⟨Tm.takeF_len Lr i (by rw [hrow.len]; exact hi), fun h0 => ?_, hB⟩
    obtain ⟨b, o, e, hb, hr⟩ := hrow.row (by omega)
    exact ⟨b, o, e, Nat.lt_of_lt_of_le hb hB, hr.take Lr b o i⟩
  refine bd_app (x := 7) (y := 10) (d := 11) (by kernel_rfl) (by kernel_rfl) e7 e10 (OwnB.start h.world.size hBw) hsrc (by omega) (by decide) (by decide) hh (bdOld_ne (by decide) (by decide)) fun A' c' a' w' h1 h2 h3 => ?_
  rw [Nat.zero_add] at h2 h3
  exact hQ A' c' a' w' h1 h2 h3
theorem bd3_region {Q : Exit → Act → World → Prop} (name : ByteArray) (Lr : Fo) (i n c : Nat) (A : Option Addr) (p : Pay) (l : Fo) (pl pi pn B r : Nat) (w1 : World) (hi : i ≤ 7) {A6 : Option Addr} {c6 : Nat} {a : Act} {w : World} (h : Hold 23 (oldEnv (bdOld name Lr i n c A p l pl pi pn B r) w1) w1 a w) (h6 : a.tmps.getD 6 undef = .slice A6 i c6) (ho : OwnB B w1.heap.size w A6 i c6 (Tm.takeF Lr i))
    (hQ : ∀ A' c' a' w', Hold 23 (oldEnv (bdOld name Lr i n c A p l pl pi pn B r) w1) w1 a' w' → a'.tmps.getD 6 undef = .slice A' (i + 1) c' → OwnB B w1.heap.size w' A' (i + 1) c' (Tm.app (Tm.takeF Lr i) (.node p l .nil)) → Q .normal a' w') : (Code.region 3 bd3Ops false).wp Tryd.prog Q a w := by
  refine region_seq (w0 := w) 5 (by kernel_rfl) ?_
  rw [show List.range 5 = [0, 1, 2, 3, 4] from rfl]
  have h2 : Hold 23 [(4, .sat (bPt B p l)), (6, .val (.slice A6 i c6)), (993, .sat (ownBP B w1.heap.size A6 i c6 (Tm.takeF Lr i)))] w a w := ⟨h.size, h.defers, Below.refl _ _, slots_cons 4 (oldP.to (h.get 4 rfl)) (slots_cons 6 h6 (slots_cons 993 ho slots_nil))⟩
  refine env_one' (i := 0) (d := 12) (k := .val (.slice A6 i c6)) (step_move (by kernel_rfl) (Opd.of_base 6 rfl) rfl) (by kernel_rfl) (by decide) h2 ?_
  intro a1 w2 q1 g1
  refine env_one' (i := 1) (d := 13) (k := .sat (bT B p l)) (step_load_b (by kernel_rfl) (Opd.of_base 4 rfl) rfl) (by kernel_rfl) (by decide) q1 ?_
  intro a2 w3 q2 g2
  refine env_one' (i := 2) (d := 14) (k := .sat (bR B (.node p l .nil))) (step_slice1_b (by kernel_rfl) (Opd.of_base 13 rfl) rfl) (by kernel_rfl) (by decide) q2 ?_
  intro a3 w4 q3 g3
  obtain ⟨Ay, cy, e14, hsrc⟩ := q3.get 14 rfl
  have hh := h.later (a' := a3) (w' := w4) q3.size q3.defers (h.world.trans (q3.world.mono h.world.size)) fun t k hk => (g3 t (bdOld_ne (d := 14) (by decide) (by decide) t k hk).1).trans ((g2 t (bdOld_ne (d := 13) (by decide) (by decide) t k hk).1).trans (g1 t (bdOld_ne (d := 12) (by decide) (by decide) t k hk).1))
  exact bd_app (x := 12) (y := 14) (d := 15) (by kernel_rfl) (by kernel_rfl) (q3.get 12 rfl) e14 (q3.get 993 rfl) hsrc (by show i + Tm.len (Fo.node p l .nil) ≤ _; simp [Tm.len]; omega) (by decide) (by decide) hh (bdOld_ne (by decide) (by decide)) hQ
structure BI (name : ByteArray) (Lr : Fo) (i n c : Nat) (A : Option Addr) (p : Pay) (l : Fo) (pl pi pn B r : Nat) (w1 : World) (A6 : Option Addr) (c6 : Nat) (L : Nat → Bool) (a : Act) (w : World) : Prop where
  old : Hold 23 (oldEnv (bdOld name Lr i n c A p l pl pi pn B r) w1) w1 a w
  e6 : a.tmps.getD 6 undef = .slice A6 (i + 1) c6
  own : L 5 = false → OwnB B w1.heap.size w A6 (i + 1) c6 (Tm.app (Tm.takeF Lr i) (.node p l .nil))
  d0 : L 0 = true → a.tmps.getD 16 undef = .string name
  d1 : L 1 = true → a.tmps.getD 17 undef = .slice A6 (i + 1) c6
  d2 : L 2 = true → a.tmps.getD 18 undef = .slice A n c
  d3 : L 3 = true → a.tmps.getD 19 undef = .int .i64 (i : Int)
  d4 : L 4 = true → L 5 = false → ∃ A' c', a.tmps.getD 20 undef = .slice A' (n - i) c' ∧ SrcB B w A' (n - i) (Tm.dropF Lr i)
  d5 : L 5 = true → ∃ A' c', a.tmps.getD 21 undef = .slice A' (i + 1 + (n - i)) c' ∧ OwnB B w1.heap.size w A' (i + 1 + (n - i)) c' (Tm.app (Tm.app (Tm.takeF Lr i) (.node p l .nil)) (Tm.dropF Lr i))
theorem BI.put {name : ByteArray} {Lr l : Fo} {i n c pl pi pn B r : Nat} {A : Option Addr} {p : Pay} {w1 : World} {A6 : Option Addr} {c6 : Nat} {L : Nat → Bool} {a : Act} {w : World} (h : BI name Lr i n c A p l pl pi pn B r w1 A6 c6 L a w) {d : Nat} (hd : 6 < d) (hd2 : d < 990) (v : Value) : Hold 23 (oldEnv (bdOld name Lr i n c A p l pl pi pn B r) w1) w1 (a.put (some d) v) w ∧ (a.put (some d) v).tmps.getD 6 undef = .slice A6 (i + 1) c6 :=
  ⟨h.old.later (put_size.trans h.old.size) h.old.defers h.old.world fun t k hk => put_other (bdOld_ne hd hd2 t k hk).1, (put_other (by omega)).trans h.e6⟩
theorem bi_0 {Q : Exit → Act → World → Prop} (name : ByteArray) (Lr : Fo) (i n c : Nat) (A : Option Addr) (p : Pay) (l : Fo) (pl pi pn B r : Nat) (w1 : World) (A6 : Option Addr) (c6 : Nat) (hi : i ≤ n) (hn : n ≤ c) (hn7 : n ≤ 7) (hc : c ≤ 9223372036854775807) (hA : A = none → c = 0) (hA2 : ∀ ad, A = some ad → ad.spot = none) (L : Nat → Bool) (a : Act) (w : World) (I : BI name Lr i n c A p l pl pi pn B r w1 A6 c6 L a w) : wpOp Tryd.prog bd4Ops Q 0 (BI name Lr i n c A p l pl pi pn B r w1 A6 c6 (fun j => if j = 0 then true else L j)) a w := by
  obtain ⟨hc1, hlt1, hl1⟩ := oldP.to (k := .sat (cellP pl (.slice A n c))) (I.old.get 1 rfl)
  obtain ⟨hc2, hlt2, hl2⟩ := oldP.to (k := .sat (cellP pi (.int .i64 (i : Int)))) (I.old.get 2 rfl)
  obtain ⟨hc3, hlt3, hl3⟩ := oldP.to (k := .sat (cellP pn (.string name))) (I.old.get 3 rfl)
  obtain ⟨hrow, hB⟩ := oldP.to (k := .sat (lrowP B A n Lr)) (I.old.get 991 rfl)
  refine op_at (X := .load 9 (.tmp 3)) (d := some 16) (by kernel_rfl) fun ty pos after => wp_run (run_load_strv w pn name hc3 hl3) ?_
  obtain ⟨q1, q2⟩ := I.put (d := 16) (by decide) (by decide) (.string name)
  exact ⟨q1, q2, I.own, fun _ => put_self (by have := I.old.size; omega), fun h => (put_other (by decide)).trans (I.d1 h), fun h => (put_other (by decide)).trans (I.d2 h), fun h => (put_other (by decide)).trans (I.d3 h), fun h h5 => by
      obtain ⟨A', c', e, hs⟩ := I.d4 h h5
      exact ⟨A', c', (put_other (by decide)).trans e, hs⟩, fun h => by
      obtain ⟨A', c', e, ho⟩ := I.d5 h
      exact ⟨A', c', (put_other (by decide)).trans e, ho⟩⟩
theorem bi_1 {Q : Exit → Act → World → Prop} (name : ByteArray) (Lr : Fo) (i n c : Nat) (A : Option Addr) (p : Pay) (l : Fo) (pl pi pn B r : Nat) (w1 : World) (A6 : Option Addr) (c6 : Nat) (hi : i ≤ n) (hn : n ≤ c) (hn7 : n ≤ 7) (hc : c ≤ 9223372036854775807) (hA : A = none → c = 0) (hA2 : ∀ ad, A = some ad → ad.spot = none) (L : Nat → Bool) (a : Act) (w : World) (I : BI name Lr i n c A p l pl pi pn B r w1 A6 c6 L a w) : wpOp Tryd.prog bd4Ops Q 1 (BI name Lr i n c A p l pl pi pn B r w1 A6 c6 (fun j => if j = 1 then true else L j)) a w := by
  obtain ⟨hc1, hlt1, hl1⟩ := oldP.to (k := .sat (cellP pl (.slice A n c))) (I.old.get 1 rfl)
  obtain ⟨hc2, hlt2, hl2⟩ := oldP.to (k := .sat (cellP pi (.int .i64 (i : Int)))) (I.old.get 2 rfl)
  obtain ⟨hc3, hlt3, hl3⟩ := oldP.to (k := .sat (cellP pn (.string name))) (I.old.get 3 rfl)
  obtain ⟨hrow, hB⟩ := oldP.to (k := .sat (lrowP B A n Lr)) (I.old.get 991 rfl)
  refine op_at (X := .move (.tmp 6)) (d := some 17) (by kernel_rfl) fun ty pos after => wp_run (v := .slice A6 (i + 1) c6) (by rw [← I.e6]; rfl) ?_
  obtain ⟨q1, q2⟩ := I.put (d := 17) (by decide) (by decide) (.slice A6 (i + 1) c6)
  exact ⟨q1, q2, I.own, fun h => (put_other (by decide)).trans (I.d0 h), fun _ => put_self (by have := I.old.size; omega), fun h => (put_other (by decide)).trans (I.d2 h), fun h => (put_other (by decide)).trans (I.d3 h), fun h h5 => by
      obtain ⟨A', c', e, hs⟩ := I.d4 h h5
      exact ⟨A', c', (put_other (by decide)).trans e, hs⟩, fun h => by
      obtain ⟨A', c', e, ho⟩ := I.d5 h
      exact ⟨A', c', (put_other (by decide)).trans e, ho⟩⟩
theorem bi_2 {Q : Exit → Act → World → Prop} (name : ByteArray) (Lr : Fo) (i n c : Nat) (A : Option Addr) (p : Pay) (l : Fo) (pl pi pn B r : Nat) (w1 : World) (A6 : Option Addr) (c6 : Nat) (hi : i ≤ n) (hn : n ≤ c) (hn7 : n ≤ 7) (hc : c ≤ 9223372036854775807) (hA : A = none → c = 0) (hA2 : ∀ ad, A = some ad → ad.spot = none) (L : Nat → Bool) (a : Act) (w : World) (I : BI name Lr i n c A p l pl pi pn B r w1 A6 c6 L a w) : wpOp Tryd.prog bd4Ops Q 2 (BI name Lr i n c A p l pl pi pn B r w1 A6 c6 (fun j => if j = 2 then true else L j)) a w := by
  obtain ⟨hc1, hlt1, hl1⟩ := oldP.to (k := .sat (cellP pl (.slice A n c))) (I.old.get 1 rfl)
  obtain ⟨hc2, hlt2, hl2⟩ := oldP.to (k := .sat (cellP pi (.int .i64 (i : Int)))) (I.old.get 2 rfl)
  obtain ⟨hc3, hlt3, hl3⟩ := oldP.to (k := .sat (cellP pn (.string name))) (I.old.get 3 rfl)
  obtain ⟨hrow, hB⟩ := oldP.to (k := .sat (lrowP B A n Lr)) (I.old.get 991 rfl)
  refine op_at (X := .load 22 (.tmp 1)) (d := some 18) (by kernel_rfl) fun ty pos after => wp_run (run_load_rowv w pl A n c hc1 hl1) ?_
  obtain ⟨q1, q2⟩ := I.put (d := 18) (by decide) (by decide) (.slice A n c)
  exact ⟨q1, q2, I.own, fun h => (put_other (by decide)).trans (I.d0 h), fun h => (put_other (by decide)).trans (I.d1 h), fun _ => put_self (by have := I.old.size; omega), fun h => (put_other (by decide)).trans (I.d3 h), fun h h5 => by
      obtain ⟨A', c', e, hs⟩ := I.d4 h h5
      exact ⟨A', c', (put_other (by decide)).trans e, hs⟩, fun h => by
      obtain ⟨A', c', e, ho⟩ := I.d5 h
      exact ⟨A', c', (put_other (by decide)).trans e, ho⟩⟩
theorem bi_3 {Q : Exit → Act → World → Prop} (name : ByteArray) (Lr : Fo) (i n c : Nat) (A : Option Addr) (p : Pay) (l : Fo) (pl pi pn B r : Nat) (w1 : World) (A6 : Option Addr) (c6 : Nat) (hi : i ≤ n) (hn : n ≤ c) (hn7 : n ≤ 7) (hc : c ≤ 9223372036854775807) (hA : A = none → c = 0) (hA2 : ∀ ad, A = some ad → ad.spot = none) (L : Nat → Bool) (a : Act) (w : World) (I : BI name Lr i n c A p l pl pi pn B r w1 A6 c6 L a w) : wpOp Tryd.prog bd4Ops Q 3 (BI name Lr i n c A p l pl pi pn B r w1 A6 c6 (fun j => if j = 3 then true else L j)) a w := by
  obtain ⟨hc1, hlt1, hl1⟩ := oldP.to (k := .sat (cellP pl (.slice A n c))) (I.old.get 1 rfl)
  obtain ⟨hc2, hlt2, hl2⟩ := oldP.to (k := .sat (cellP pi (.int .i64 (i : Int)))) (I.old.get 2 rfl)
  obtain ⟨hc3, hlt3, hl3⟩ := oldP.to (k := .sat (cellP pn (.string name))) (I.old.get 3 rfl)
  obtain ⟨hrow, hB⟩ := oldP.to (k := .sat (lrowP B A n Lr)) (I.old.get 991 rfl)
  refine op_at (X := .load 3 (.tmp 2)) (d := some 19) (by kernel_rfl) fun ty pos after => wp_run (run_load_intv w pi i hc2 hl2) ?_
  obtain ⟨q1, q2⟩ := I.put (d := 19) (by decide) (by decide) (.int .i64 (i : Int))
  exact ⟨q1, q2, I.own, fun h => (put_other (by decide)).trans (I.d0 h), fun h => (put_other (by decide)).trans (I.d1 h), fun h => (put_other (by decide)).trans (I.d2 h), fun _ => put_self (by have := I.old.size; omega), fun h h5 => by
      obtain ⟨A', c', e, hs⟩ := I.d4 h h5
      exact ⟨A', c', (put_other (by decide)).trans e, hs⟩, fun h => by
      obtain ⟨A', c', e, ho⟩ := I.d5 h
      exact ⟨A', c', (put_other (by decide)).trans e, ho⟩⟩
theorem bi_4 {Q : Exit → Act → World → Prop} (name : ByteArray) (Lr : Fo) (i n c : Nat) (A : Option Addr) (p : Pay) (l : Fo) (pl pi pn B r : Nat) (w1 : World) (A6 : Option Addr) (c6 : Nat) (hi : i ≤ n) (hn : n ≤ c) (hn7 : n ≤ 7) (hc : c ≤ 9223372036854775807) (hA : A = none → c = 0) (hA2 : ∀ ad, A = some ad → ad.spot = none) (L : Nat → Bool) (a : Act) (w : World) (I : BI name Lr i n c A p l pl pi pn B r w1 A6 c6 L a w) (hL2 : L 2 = true) (hL3 : L 3 = true) : wpOp Tryd.prog bd4Ops Q 4 (BI name Lr i n c A p l pl pi pn B r w1 A6 c6 (fun j => if j = 4 then true else L j)) a w := by
  obtain ⟨hc1, hlt1, hl1⟩ := oldP.to (k := .sat (cellP pl (.slice A n c))) (I.old.get 1 rfl)
  obtain ⟨hc2, hlt2, hl2⟩ := oldP.to (k := .sat (cellP pi (.int .i64 (i : Int)))) (I.old.get 2 rfl)
  obtain ⟨hc3, hlt3, hl3⟩ := oldP.to (k := .sat (cellP pn (.string name))) (I.old.get 3 rfl)
  obtain ⟨hrow, hB⟩ := oldP.to (k := .sat (lrowP B A n Lr)) (I.old.get 991 rfl)
  obtain ⟨A', hr, hA'⟩ := run_slice_from (a := a) (x := .tmp 18) (y := .tmp 19) (dst := some 20) (ty := 0) (pos := "") (after := #[]) (guard := none) w A n c i (I.d2 hL2) (I.d3 hL3) hi hn hA hA2 hc
  have hsrc : SrcB B w A' (n - i) (Tm.dropF Lr i) := by
    refine ⟨by rw [Tm.len_drop, hrow.len], fun h0 => ?_, hB⟩
    obtain ⟨b, o, e, hb, hr⟩ := hrow.row (by omega)
    exact ⟨b, o + i * 4, hA' (by omega) b o e, Nat.lt_of_lt_of_le hb hB, hr.drop Lr b o i⟩
  refine op_at (X := .slice 22 (.tmp 18) (some (.tmp 19)) none none) (d := some 20) (by kernel_rfl) fun ty pos after => wp_run (v := .slice A' (n - i) (c - i)) hr ?_
  obtain ⟨q1, q2⟩ := I.put (d := 20) (by decide) (by decide) (.slice A' (n - i) (c - i))
  exact ⟨q1, q2, I.own, fun h => (put_other (by decide)).trans (I.d0 h), fun h => (put_other (by decide)).trans (I.d1 h), fun h => (put_other (by decide)).trans (I.d2 h), fun h => (put_other (by decide)).trans (I.d3 h), fun _ _ => ⟨_, _, put_self (by have := I.old.size; omega), hsrc⟩, fun h => by
      obtain ⟨A', c', e, ho⟩ := I.d5 h
      exact ⟨A', c', (put_other (by decide)).trans e, ho⟩⟩
theorem bi_5 {Q : Exit → Act → World → Prop} (name : ByteArray) (Lr : Fo) (i n c : Nat) (A : Option Addr) (p : Pay) (l : Fo) (pl pi pn B r : Nat) (w1 : World) (A6 : Option Addr) (c6 : Nat) (hi : i ≤ n) (hn : n ≤ c) (hn7 : n ≤ 7) (L : Nat → Bool) (a : Act) (w : World) (I : BI name Lr i n c A p l pl pi pn B r w1 A6 c6 L a w) (hL1 : L 1 = true) (hL4 : L 4 = true) (hL5 : L 5 = false) : wpOp Tryd.prog bd4Ops Q 5 (BI name Lr i n c A p l pl pi pn B r w1 A6 c6 (fun j => if j = 5 then true else L j)) a w := by
  obtain ⟨Ay, cy, ey, hsrc⟩ := I.d4 hL4 hL5
  refine op_at (X := .call { callee := .builtin .append, args := #[.tmp 17, .tmp 20], argTypes := #[22, 22] }) (d := some 21) (by kernel_rfl) fun ty pos after => wp_append_B (.tmp 17) (.tmp 20) rfl (I.own hL5) (I.d1 hL1) ey hsrc (by omega) fun A' c' w' o' b' => ?_
  obtain ⟨q1, q2⟩ := I.put (d := 21) (by decide) (by decide) (.slice A' (i + 1 + (n - i)) c')
  exact ⟨q1.later q1.size q1.defers (I.old.world.trans b') (fun _ _ _ => rfl), q2, fun h => by simp at h, fun h => (put_other (by decide)).trans (I.d0 h), fun h => (put_other (by decide)).trans (I.d1 h), fun h => (put_other (by decide)).trans (I.d2 h), fun h => (put_other (by decide)).trans (I.d3 h), fun _ h => by simp at h, fun _ => ⟨A', c', put_self (by have := I.old.size; omega), o'⟩⟩
theorem bd4_region {Q : Exit → Act → World → Prop} (name : ByteArray) (Lr : Fo) (i n c : Nat) (A : Option Addr) (p : Pay) (l : Fo) (pl pi pn B r : Nat) (w1 : World) (A6 : Option Addr) (c6 : Nat) (hi : i ≤ n) (hn : n ≤ c) (hn7 : n ≤ 7) (hc : c ≤ 9223372036854775807) (hA : A = none → c = 0) (hA2 : ∀ ad, A = some ad → ad.spot = none) {a : Act} {w : World} (h : Hold 23 (oldEnv (bdOld name Lr i n c A p l pl pi pn B r) w1) w1 a w) (h6 : a.tmps.getD 6 undef = .slice A6 (i + 1) c6) (ho : OwnB B w1.heap.size w A6 (i + 1) c6 (Tm.app (Tm.takeF Lr i) (.node p l .nil))) (hr1 : r < w1.heap.size)
    (hQ : ∀ A' c' wq a' w', a'.tmps.size = 23 → a'.defers = [] → a'.tmps.getD 5 undef = .pointer (some ⟨r, 0, none⟩) → TermAt w' r (3, 0, name) A' (i + 1 + (n - i)) c' → OwnB B w1.heap.size wq A' (i + 1 + (n - i)) c' (Tm.app (Tm.app (Tm.takeF Lr i) (.node p l .nil)) (Tm.dropF Lr i)) → Only (· = r) wq w' → Below w1.heap.size w1 wq → Q .normal a' w') : (Code.region 4 bd4Ops true).wp Tryd.prog Q a w := by
  refine region_inv (n := 8) (m := 6) (by kernel_rfl) (by decide) (by kernel_rfl) (by kernel_rfl) (BI name Lr i n c A p l pl pi pn B r w1 A6 c6) ?_ ?_ ?_
  · have hb := drawn_below w
    exact ⟨h.later h.size h.defers (h.world.trans (hb.mono h.world.size)) (fun _ _ _ => rfl), h6, fun _ => ho.below hb, fun h => absurd h (by decide), fun h => absurd h (by decide), fun h => absurd h (by decide), fun h => absurd h (by decide), fun h => absurd h (by decide), fun h => absurd h (by decide)⟩
  · intro L a w i' o hi' ho' hun hdep I
    have hdeps : ∀ j, ((bd4Ops[i']?).map fun o => o.after.any fun e => Region.binds .any e && e.on == j) = some true → L j = true := fun j hj => by
      rw [ho'] at hj
      have hj := Option.some.inj hj
      obtain ⟨e, he, hb⟩ := Array.any_eq_true'.1 hj
      simp only [Bool.and_eq_true, beq_iff_eq] at hb
      rw [← hb.2]
      exact hdep e he hb.1
    have h6' : i' = 0 ∨ i' = 1 ∨ i' = 2 ∨ i' = 3 ∨ i' = 4 ∨ i' = 5 := by omega
    rcases h6' with rfl | rfl | rfl | rfl | rfl | rfl
    · exact bi_0 name Lr i n c A p l pl pi pn B r w1 A6 c6 hi hn hn7 hc hA hA2 L a w I
    · exact bi_1 name Lr i n c A p l pl pi pn B r w1 A6 c6 hi hn hn7 hc hA hA2 L a w I
    · exact bi_2 name Lr i n c A p l pl pi pn B r w1 A6 c6 hi hn hn7 hc hA hA2 L a w I
    · exact bi_3 name Lr i n c A p l pl pi pn B r w1 A6 c6 hi hn hn7 hc hA hA2 L a w I
    · exact bi_4 name Lr i n c A p l pl pi pn B r w1 A6 c6 hi hn hn7 hc hA hA2 L a w I (hdeps 2 (by kernel_rfl)) (hdeps 3 (by kernel_rfl))
    · exact bi_5 name Lr i n c A p l pl pi pn B r w1 A6 c6 hi hn hn7 L a w I (hdeps 1 (by kernel_rfl)) (hdeps 4 (by kernel_rfl)) hun
  · intro L a w hL I
    show wpOps _ _ _ [6, 7] a w
    obtain ⟨A', c', e21, o'⟩ := I.d5 (hL 5 (by decide))
    have e16 := I.d0 (hL 0 (by decide))
    have e5 : a.tmps.getD 5 undef = .pointer (some ⟨r, 0, none⟩) := (I.old.get 5 rfl).1
    obtain ⟨hrl, hres⟩ := oldP.to (k := .sat (resAtP r)) (I.old.get 992 rfl)
    have hs := I.old.size
    refine ops_at (X := .build 24 #[(0, .const (.int .i64 3)), (2, .tmp 16), (3, .tmp 21)]) (d := some 22) (by kernel_rfl) fun ty pos after => wp_run (run_build3 w name A' (i + 1 + (n - i)) c' e16 e21) ?_
    refine ops_at (X := .store 24 (.tmp 5) (.tmp 22)) (d := none) (by kernel_rfl) fun ty pos after => wp_skips (run_store_new w r (3, 0, name) A' (i + 1 + (n - i)) c' ((put_other (by decide)).trans e5) (put_self (by omega)) hres) ?_
    show Q .normal _ _
    exact hQ A' c' w _ _ (put_size.trans hs) I.old.defers ((put_other (by decide)).trans e5) (stored w r (3, 0, name) zp A' none (i + 1 + (n - i)) c' 0 0 hres.t hres.s).term o' (set4_in _ _ _ _ _ _ (Only.refl _ _) rfl) I.old.world
theorem step_alloc_res {ops : Array Oper} {Q : Exit → Act → World → Prop} {E : Nat → Kd} {D : Nat → Nat} {base : Nat → Option Kd} {N : Nat} {i : Nat} {w0 : World} (ss : Nat) (hop : (ops[i]?).map (·.op) = some (.alloc 24)) (hs : Opd ops E D base N i (.tmp ss) (.sat (oldP .any w0))) (hE : E i = .sat (newResP w0)) : Step Tryd.prog ops Q E D base N i := by
  intro o ho a w hc K hK
  have hxo := op_of ho hop
  obtain ⟨dst, op, ty, pos, after, guard⟩ := o
  have hx' : op = _ := hxo
  subst hx'
  refine wp_alloc_op ?_
  have hb : Below w.heap.size w (w.alloc (.cells #[.int .i64 0, .int .i64 0, .string ⟨#[]⟩, .slice none 0 0] 24)) := (Below.refl _ _).alloc (Nat.le_refl _) _
  refine hK _ _ ?_ hb
  rw [hE]
  exact ⟨w.heap.size, rfl, (hs a w hc).2.size, by rw [World.size_alloc]; omega, ResAt.new w _ _ rfl⟩
theorem build_any (name : ByteArray) (Lr : Fo) (i n c : Nat) (A : Option Addr) (p : Pay) (l : Fo) (A0 : Option Addr) (c0 : Nat) (pl pi pn B : Nat) (w : World) (hi : i ≤ n) (hn : n ≤ c) (hn7 : n ≤ 7) (hc : c ≤ 9223372036854775807) (hA : A = none → c = 0) (hA2 : ∀ ad, A = some ad → ad.spot = none)
    (hrow : ArgsB w B A n Lr) (hx : ArgsB w B A0 (Tm.len l) l) (hB : B ≤ w.heap.size) (h1 : (cellP pl (.slice A n c)).R (.pointer (some ⟨pl, 0, none⟩)) w) (h2 : (cellP pi (.int .i64 (i : Int))).R (.pointer (some ⟨pi, 0, none⟩)) w) (h3 : (cellP pn (.string name)).R (.pointer (some ⟨pn, 0, none⟩)) w) :
    Calls Tryd.prog 29 #[tv p A0 (Tm.len l) c0, .pointer (some ⟨pl, 0, none⟩), .pointer (some ⟨pi, 0, none⟩), .pointer (some ⟨pn, 0, none⟩)] w fun e w' => ∃ A' c', e = .returned (tv (3, 0, name) A' (i + 1 + (n - i)) c') ∧ ArgsIn (fun b => b < w'.heap.size ∧ (b < B ∨ w.heap.size ≤ b)) w' A' (i + 1 + (n - i)) (Tm.app (Tm.app (Tm.takeF Lr i) (.node p l .nil)) (Tm.dropF Lr i)) ∧ Below w.heap.size w w' := by
  refine calls_of_wp Tryd.func29 bd_body ?_
  obtain ⟨v0, hv0⟩ : ∃ v : Value, v = tv p A0 (Tm.len l) c0 := ⟨_, rfl⟩
  obtain ⟨v1, hv1⟩ : ∃ v : Value, v = .pointer (some ⟨pl, 0, none⟩) := ⟨_, rfl⟩
  obtain ⟨v2, hv2⟩ : ∃ v : Value, v = .pointer (some ⟨pi, 0, none⟩) := ⟨_, rfl⟩
  obtain ⟨v3, hv3⟩ : ∃ v : Value, v = .pointer (some ⟨pn, 0, none⟩) := ⟨_, rfl⟩
  rw [← hv0, ← hv1, ← hv2, ← hv3]
  have full : (#[v0, v1, v2, v3] ++ Array.replicate (Tryd.f29.ntmps - #[v0, v1, v2, v3].size) undef : Array Value).size = 23 := by kernel_rfl
  have gs0 : (#[v0, v1, v2, v3] ++ Array.replicate (Tryd.f29.ntmps - #[v0, v1, v2, v3].size) undef : Array Value).getD 0 undef = v0 := by kernel_rfl
  have gs1 : (#[v0, v1, v2, v3] ++ Array.replicate (Tryd.f29.ntmps - #[v0, v1, v2, v3].size) undef : Array Value).getD 1 undef = v1 := by kernel_rfl
  have gs2 : (#[v0, v1, v2, v3] ++ Array.replicate (Tryd.f29.ntmps - #[v0, v1, v2, v3].size) undef : Array Value).getD 2 undef = v2 := by kernel_rfl
  have gs3 : (#[v0, v1, v2, v3] ++ Array.replicate (Tryd.f29.ntmps - #[v0, v1, v2, v3].size) undef : Array Value).getD 3 undef = v3 := by kernel_rfl
  generalize (#[v0, v1, v2, v3] ++ Array.replicate (Tryd.f29.ntmps - #[v0, v1, v2, v3].size) undef : Array Value) = tm at full gs0 gs1 gs2 gs3 ⊢
  have h : Hold 23 [(0, .sat (bT B p l)), (1, .sat (cellP pl (.slice A n c))), (2, .sat (cellP pi (.int .i64 (i : Int)))), (3, .sat (cellP pn (.string name))), (991, .sat (lrowP B A n Lr)), (998, .sat (oldP .any w))] w { tmps := tm, defers := [] } w :=
    ⟨full, rfl, Below.refl _ _, slots_cons 0 (by rw [gs0]; exact ⟨A0, c0, hv0, hx, hB⟩) (slots_cons 1 (by rw [gs1, hv1]; exact h1) (slots_cons 2 (by rw [gs2, hv2]; exact h2) (slots_cons 3 (by rw [gs3, hv3]; exact h3) (slots_cons 991 ⟨hrow, hB⟩ (slots_cons 998 ⟨trivial, Below.refl _ _⟩ slots_nil)))))⟩
  refine wp_seq ?_
  refine region_seq (w0 := w) 2 (by kernel_rfl) ?_
  rw [show List.range 2 = [0, 1] from rfl]
  refine env_one (i := 0) (d := 4) (k := .sat (bPt B p l)) (step_box_b (by kernel_rfl) (Opd.of_base 0 rfl) rfl) (by kernel_rfl) (by decide) h ?_
  clear h
  intro a w1 h
  refine env_one (i := 1) (d := 5) (k := .sat (newResP w)) (step_alloc_res 998 (by kernel_rfl) (Opd.of_base 998 rfl) rfl) (by kernel_rfl) (by decide) h ?_
  clear h
  intro a w1 h
  show Code.wp _ _ _ a w1
  obtain ⟨r, e5, hr0, hr1, hres⟩ := h.get 5 rfl
  have hbw := h.world
  have h : Hold 23 (bdOld name Lr i n c A p l pl pi pn B r) w1 a w1 := ⟨h.size, h.defers, Below.refl _ _, slots_cons 1 (h.get 1 rfl) (slots_cons 2 (h.get 2 rfl) (slots_cons 3 (h.get 3 rfl) (slots_cons 4 (h.get 4 rfl) (slots_cons 5 e5 (slots_cons 991 (h.get 991 rfl) (slots_cons 992 ⟨hr1, hres⟩ slots_nil))))))⟩
  have h := h.olds
  refine wp_seq ?_
  refine region_seq (w0 := w1) 1 (by kernel_rfl) ?_
  rw [show List.range 1 = [0] from rfl]
  refine ops_at (X := .assign (.const (.slice none 0 0))) (d := some 6) (by kernel_rfl) fun ty pos after => wp_assign_op ?_
  have h6 : (a.put (some 6) (.slice none 0 0)).tmps.getD 6 undef = .slice none 0 0 := put_self (by have := h.size; omega)
  have h := h.later (a' := a.put (some 6) (.slice none 0 0)) (put_size.trans h.size) h.defers h.world fun t k hk => put_other (bdOld_ne (d := 7) (by decide) (by decide) t k hk).2
  show Code.wp _ _ _ (a.put (some 6) (.slice none 0 0)) w1
  refine wp_seq ?_
  refine bd2_region name Lr i n c A p l pl pi pn B r w1 hi hn hn7 hc hA h h6 (Nat.le_trans hB hbw.size) fun A6 c6 a2 w2 q1 q2 q3 => ?_
  show Code.wp _ _ _ a2 w2
  refine wp_seq ?_
  refine bd3_region name Lr i n c A p l pl pi pn B r w1 (by omega) q1 q2 q3 fun A7 c7 a3 w3 q4 q5 q6 => ?_
  show Code.wp _ _ _ a3 w3
  refine wp_seq ?_
  refine bd4_region name Lr i n c A p l pl pi pn B r w1 A7 c7 hi hn hn7 hc hA hA2 q4 q5 q6 hr1 fun A' c' wq a4 w4 s1 s2 s3 s4 s5 s6 s7 => ?_
  show Code.wp _ _ _ a4 w4
  refine wp_ret ?_
  (try simp only [then_ret, block_ret])
  refine bodyPost_ret (v := tv (3, 0, name) A' (i + 1 + (n - i)) c') (term_result (q := 5) rfl _ _ r (3, 0, name) A' (i + 1 + (n - i)) c' s3 s4) s2 ?_
  have hbs := hbw.size
  have hsz := s6.size
  have hargs := (s5.args (by omega)).keep (w' := w4) fun b hb => s6.block b hb.1 (fun e => by rcases hb.2 with h1 | h1 <;> omega)
  refine ⟨A', c', rfl, hargs.mono fun b hb => ⟨Nat.lt_of_lt_of_le hb.1 hsz, ?_⟩, ?_⟩
  · rcases hb.2 with h1 | h1
    · exact .inl h1
    · exact .inr (by omega)
  · exact hbw.trans ((s7.mono hbs).trans (s6.below (Nat.le_trans hbs s7.size) fun k hk => by subst hk; exact hr0))
end Go.Proofs.YtcjakmafojbhlaaDoor
namespace Go.Proofs.YtcjakmafojbhlaaDoor
set_option linter.unusedVariables false
set_option linter.unusedSimpArgs false
open Go.RowKit
/-- A variable that holds v. -/
def varP (v : Value) : Pd where
  R := fun u w => ∃ b, u = .pointer (some ⟨b, 0, none⟩) ∧ b < w.heap.size ∧ w.cell? ⟨b, 0, none⟩ = some v
  keep := by
    rintro u w w' ⟨b, e, h1, h2⟩ hb
    exact ⟨b, e, Nat.lt_of_lt_of_le h1 hb.size, (cell_of_block (p := ⟨b, 0, none⟩) (hb.block _ h1)).trans h2⟩
section
variable {ops : Array Oper} {Q : Exit → Act → World → Prop} {E : Nat → Kd} {D : Nat → Nat} {base : Nat → Option Kd} {N : Nat}
theorem Opd.varS {i : Nat} {x : Operand} {s : ByteArray} (h : Opd ops E D base N i x (.sat (varP (.string s)))) : Opd ops E D base N i x (.ptrS s) := fun a w hc => by
  obtain ⟨b, e, h1, h2⟩ := h a w hc
  exact ⟨⟨b, 0, none⟩, e, h1, h2⟩
theorem step_box_str {i : Nat} {x : Operand} {s : ByteArray} (hop : (ops[i]?).map (·.op) = some (.box 9 x)) (hx : Opd ops E D base N i x (.val (.string s))) (hE : E i = .sat (varP (.string s))) : Step Tryd.prog ops Q E D base N i := by
  intro o ho a w hc K hK
  have hxo := op_of ho hop
  obtain ⟨dst, op, ty, pos, after, guard⟩ := o
  have hx' : op = _ := hxo
  subst hx'
  have e : a.eval x = .string s := hx a w hc
  have hrun : (execOp a.eval ⟨dst, .box 9 x, ty, pos, after, guard⟩).run Tryd.prog w = .ok (.value (.pointer (some ⟨w.heap.size, 0, none⟩))) (w.alloc (.cells #[.string s] 9)) := by
    unfold execOp
    simp only [e]
    go_simp
  unfold Oper.wp
  rw [hrun]
  refine hK _ _ ?_ ((Below.refl _ _).alloc (Nat.le_refl _) _)
  rw [hE]
  have hn := CellIs.new w (.string s) 9
  exact ⟨w.heap.size, rfl, hn.lt, hn.cell⟩
theorem step_build3 {i : Nat} {y z : Operand} {s : ByteArray} {F : Fo} (hop : (ops[i]?).map (·.op) = some (.build 24 #[(0, .const (.int .i64 3)), (2, y), (3, z)])) (hy : Opd ops E D base N i y (.val (.string s))) (hz : Opd ops E D base N i z (.row F)) (hE : E i = .term (3, 0, s) F) : Step Tryd.prog ops Q E D base N i :=
  step_still hop hE fun a w h dst ty' pos after guard => by
    have e : a.eval y = .string s := hy a w h
    obtain ⟨A, c, e', ha⟩ := hz a w h
    exact ⟨_, run_build3 w s A (Tm.len F) c e e', A, c, rfl, ha⟩
theorem step_concat {i : Nat} {x y : Operand} {s t : ByteArray} (hst : s.size + t.size ≤ 9223372036854775807) (hop : (ops[i]?).map (·.op) = some (.binOp .add 9 x y 9)) (hx : Opd ops E D base N i x (.val (.string s))) (hy : Opd ops E D base N i y (.val (.string t))) (hE : E i = .val (.string (s ++ t))) : Step Tryd.prog ops Q E D base N i :=
  step_still hop hE fun a w h dst ty' pos after guard => by
    have e : a.eval x = .string s := hx a w h
    have e' : a.eval y = .string t := hy a w h
    refine ⟨.string (s ++ t), ?_, rfl⟩
    unfold execOp
    simp only [e, e']
    go_simp
end
theorem run_alloc_row {a : Act} {dst : Option Tmp} {ty : TypeId} {pos : String} {after : Array Edge} {guard : Option (Nat × Bool)} (w : World) :
    (execOp a.eval ⟨dst, .alloc 22, ty, pos, after, guard⟩).run Tryd.prog w = .ok (.value (.pointer (some ⟨w.heap.size, 0, none⟩))) (w.alloc (.cells #[.slice none 0 0] 22)) := by
  unfold execOp
  go_simp
theorem run_alloc_int {a : Act} {dst : Option Tmp} {ty : TypeId} {pos : String} {after : Array Edge} {guard : Option (Nat × Bool)} (w : World) :
    (execOp a.eval ⟨dst, .alloc 3, ty, pos, after, guard⟩).run Tryd.prog w = .ok (.value (.pointer (some ⟨w.heap.size, 0, none⟩))) (w.alloc (.cells #[.int .i64 0] 3)) := by
  unfold execOp
  go_simp
theorem run_store_row {a : Act} {x y : Operand} {ty : TypeId} {pos : String} {after : Array Edge} {guard : Option (Nat × Bool)} (w : World) (b : Nat) (u : Value) (A : Option Addr) (n c : Nat) (hx : a.eval x = .pointer (some ⟨b, 0, none⟩)) (hy : a.eval y = .slice A n c) (hc : CellIs w b u) :
    (execOp a.eval ⟨none, .store 22 x y, ty, pos, after, guard⟩).run Tryd.prog w = .ok .skip (w.setCell ⟨b, 0, none⟩ (.slice A n c)) := by
  have h1 := hc.cell
  have h2 := hc.soft
  unfold execOp
  simp only [hx, hy]
  go_simp
theorem run_store_int {a : Act} {x y : Operand} {ty : TypeId} {pos : String} {after : Array Edge} {guard : Option (Nat × Bool)} (w : World) (b : Nat) (u : Value) (n : Int) (hx : a.eval x = .pointer (some ⟨b, 0, none⟩)) (hy : a.eval y = .int .i64 n) (hc : CellIs w b u) :
    (execOp a.eval ⟨none, .store 3 x y, ty, pos, after, guard⟩).run Tryd.prog w = .ok .skip (w.setCell ⟨b, 0, none⟩ (.int .i64 n)) := by
  have h1 := hc.cell
  have h2 := hc.soft
  unfold execOp
  simp only [hx, hy]
  go_simp
theorem run_len_row {a : Act} {x : Operand} {dst : Option Tmp} {ty : TypeId} {pos : String} {after : Array Edge} {guard : Option (Nat × Bool)} (w : World) (A : Option Addr) (n c : Nat) (hx : a.eval x = .slice A n c) :
    (execOp a.eval ⟨dst, .call { callee := .builtin .len, args := #[x], argTypes := #[22] }, ty, pos, after, guard⟩).run Tryd.prog w = .ok (.value (.int .i64 (n : Int))) w := by
  unfold execOp
  simp only [resolve, List.map_toArray, List.map_cons, List.map_nil, hx]
  go_simp
theorem run_gtr_int {a : Act} {x : Operand} {dst : Option Tmp} {ty : TypeId} {pos : String} {after : Array Edge} {guard : Option (Nat × Bool)} (w : World) (m n : Int) (hx : a.eval x = .int .i64 m) :
    (execOp a.eval ⟨dst, .binOp .gtr 3 x (.const (.int .i64 n)) 3, ty, pos, after, guard⟩).run Tryd.prog w = .ok (.value (.bool (decide (n < m)))) w := by
  have e : a.eval (.const (.int .i64 n)) = .int .i64 n := rfl
  unfold execOp
  simp only [hx, e]
  go_simp
theorem run_conv8 {a : Act} {x : Operand} {dst : Option Tmp} {ty : TypeId} {pos : String} {after : Array Edge} {guard : Option (Nat × Bool)} (w : World) (z : Nat) (hz : z < 256) (hx : a.eval x = .int .u8 (z : Int)) :
    (execOp a.eval ⟨dst, .convert 5 3 x, ty, pos, after, guard⟩).run Tryd.prog w = .ok (.value (.int .i64 (z : Int))) w := by
  have hw : IntKind.i64.wrap (z : Int) = (z : Int) := by rw [IntKind.wrap_i64]; omega
  unfold execOp
  simp only [hx]
  go_simp
theorem run_add1 {a : Act} {x : Operand} {dst : Option Tmp} {ty : TypeId} {pos : String} {after : Array Edge} {guard : Option (Nat × Bool)} (w : World) (m : Nat) (hm : m < 1000) (hx : a.eval x = .int .i64 (m : Int)) :
    (execOp a.eval ⟨dst, .binOp .add 3 x (.const (.int .i64 1)) 3, ty, pos, after, guard⟩).run Tryd.prog w = .ok (.value (.int .i64 ((m + 1 : Nat) : Int))) w := by
  have e : a.eval (.const (.int .i64 1)) = .int .i64 1 := rfl
  have hw : IntKind.i64.wrap ((m : Int) + 1) = ((m + 1 : Nat) : Int) := by rw [IntKind.wrap_i64]; omega
  rw [← hw]
  unfold execOp
  simp only [hx, e]
  go_simp
theorem run_rem {a : Act} {x y : Operand} {dst : Option Tmp} {ty : TypeId} {pos : String} {after : Array Edge} {guard : Option (Nat × Bool)} (w : World) (m n : Nat) (hn : 0 < n) (hm : m < 1000) (hn2 : n < 1000) (hx : a.eval x = .int .i64 (m : Int)) (hy : a.eval y = .int .i64 (n : Int)) :
    (execOp a.eval ⟨dst, .binOp .rem 3 x y 3, ty, pos, after, guard⟩).run Tryd.prog w = .ok (.value (.int .i64 ((m % n : Nat) : Int))) w := by
  have h0 : (n : Int) ≠ 0 := by omega
  have hlt : m % n < n := Nat.mod_lt _ hn
  have h1 : n ≠ 0 := by omega
  unfold execOp
  simp only [hx, hy]
  go_simp
  first | rfl | exact Int.tmod_eq_emod_of_nonneg (by omega)
theorem run_makeFunc {a : Act} {x y z : Operand} {dst : Option Tmp} {ty : TypeId} {pos : String} {after : Array Edge} {guard : Option (Nat × Bool)} (w : World) (u v t : Value) (hx : a.eval x = u) (hy : a.eval y = v) (hz : a.eval z = t) :
    (execOp a.eval ⟨dst, .makeFunc (.func 29) #[] #[x, y, z], ty, pos, after, guard⟩).run Tryd.prog w = .ok (.value (.func (.func 29) #[] #[u, v, t])) w := by
  unfold execOp
  simp only [List.map_toArray, List.map_cons, List.map_nil, hx, hy, hz]
  go_simp
end Go.Proofs.YtcjakmafojbhlaaDoor
namespace Go.Proofs.YtcjakmafojbhlaaDoor
set_option linter.unusedVariables false
set_option linter.unusedSimpArgs false
open Go.RowKit
namespace Tm
theorem cmpP_le_trans {x y z : Tn} (h : cmpP x y ≤ 0) (h' : cmpP y z ≤ 0) : cmpP x z ≤ 0 := by
  obtain ⟨f1, f2, f3, f4⟩ := cmpP_fit x y z
  by_cases h0 : cmpP x y = 0
  · have := f2 h0; omega
  · by_cases h1 : cmpP y z = 0
    · have := f3 h1; omega
    · have := f1 (by omega) (by omega); omega
theorem cmpP_le_lt {x y z : Tn} (h : cmpP x y ≤ 0) (h' : cmpP y z < 0) : cmpP x z < 0 := by
  obtain ⟨f1, f2, f3, f4⟩ := cmpP_fit x y z
  by_cases h0 : cmpP x y = 0
  · have := f2 h0; omega
  · exact f1 (by omega) h'
theorem sortL_le (L : List Tn) : (sortL false L).Pairwise (fun s t => cmpP s t ≤ 0) := (isSort_sortL false L).sorted
theorem sorted_at {G : List Tn} (h : G.Pairwise (fun s t => cmpP s t ≤ 0)) {i j : Nat} (hij : i ≤ j) (hj : j < G.length) : cmpP G[i]! G[j]! ≤ 0 := by
  by_cases he : i = j
  · subst he; rw [cmpP_zero.2 rfl]; exact Int.le_refl _
  · rw [getElem!_pos G i (by omega), getElem!_pos G j hj]
    exact List.pairwise_iff_getElem.1 h i j (by omega) hj (by omega)
theorem uniqTo_inc {G : List Tn} (h : G.Pairwise (fun s t => cmpP s t ≤ 0)) : ∀ k, k ≤ G.length → (uniqTo G k).Pairwise (fun s t => cmpP s t < 0) ∧ ∀ x ∈ uniqTo G k, ∀ j, k ≤ j + 1 → j < G.length → cmpP x G[j]! ≤ 0
  | 0, _ => ⟨List.Pairwise.nil, fun x hx => by cases hx⟩
  | k + 1, hk => by
    obtain ⟨h1, h2⟩ := uniqTo_inc h k (by omega)
    cases hd : dupAt G k with
    | true =>
      rw [uniqTo_dup hd]
      refine ⟨h1, fun x hx j hj hjl => h2 x hx j (by omega) hjl⟩
    | false =>
      rw [uniqTo_new hd]
      refine ⟨?_, fun x hx j hj hjl => ?_⟩
      · rw [List.pairwise_append]
        refine ⟨h1, List.pairwise_singleton _ _, fun x hx y hy => ?_⟩
        rw [List.mem_singleton] at hy
        subst hy
        by_cases h0 : k = 0
        · subst h0; cases hx
        · have ha := h2 x hx (k - 1) (by omega) (by omega)
          have hb := sorted_at h (i := k - 1) (j := k) (by omega) (by omega)
          have hn : cmpP G[k]! G[k - 1]! ≠ 0 := by
            unfold dupAt at hd
            rw [decide_eq_true (by omega : 0 < k), Bool.true_and, decide_eq_false_iff_not] at hd
            exact hd
          have hneg := cmpP_neg G[k - 1]! G[k]!
          exact cmpP_le_lt ha (by omega)
      · rcases List.mem_append.1 hx with hx | hx
        · exact h2 x hx j (by omega) hjl
        · rw [List.mem_singleton] at hx
          subst hx
          exact sorted_at h (i := k) (j := j) (by omega) hjl
theorem uniq_lt (L : List Tn) : (uniq (sortL false L)).Pairwise (fun s t => cmpP s t < 0) := (uniqTo_inc (sortL_le L) _ (Nat.le_refl _)).1
theorem incB_of_pairwise {G : List Tn} (h : G.Pairwise (fun s t => cmpP s t < 0)) : incB G = true := by
  rw [incB_iff]
  intro k hk
  rw [getElem!_pos G k (by omega), getElem!_pos G (k + 1) hk]
  exact List.pairwise_iff_getElem.1 h k (k + 1) (by omega) hk (by omega)
theorem uniq_inc (L : List Tn) : incB (uniq (sortL false L)) = true := incB_of_pairwise (uniq_lt L)
/-- The sorted row does not depend on the order of the elements. -/
theorem sortL_of_perm {L L' : List Tn} (h : L.Perm L') : sortL false L = sortL false L' :=
  List.Perm.eq_of_pairwise (le := fun s t => cmpP s t ≤ 0) (fun x y _ _ h1 h2 => cmpP_zero.1 (by have := cmpP_neg x y; omega)) (sortL_le L) (sortL_le L') (((sortL_perm false L).trans h).trans (sortL_perm false L').symm)
theorem sortL_again (L : List Tn) : sortL false (sortL false L) = sortL false L := sortL_of_perm (sortL_perm false L)
/-- Each element of the row is among the different ones. -/
theorem mem_uniqTo {G : List Tn} : ∀ k, k ≤ G.length → ∀ j, j < k → G[j]! ∈ uniqTo G k
  | 0, _, j, h => by omega
  | k + 1, hk, j, hj => by
    have ih := mem_uniqTo (G := G) k (by omega)
    cases hd : dupAt G k with
    | false =>
      rw [uniqTo_new hd, List.mem_append]
      by_cases h : j = k
      · subst h; right; simp
      · left; exact ih j (by omega)
    | true =>
      rw [uniqTo_dup hd]
      by_cases h : j = k
      · subst h
        unfold dupAt at hd
        simp only [Bool.and_eq_true, decide_eq_true_eq] at hd
        rw [cmpP_zero.1 hd.2]
        exact mem_uniqTo j (by omega) (j - 1) (by omega)
      · exact ih j (by omega)
theorem mem_uniq {G : List Tn} {x : Tn} : x ∈ uniq G ↔ x ∈ G := by
  refine ⟨uniq_mem, fun h => ?_⟩
  obtain ⟨j, hj, rfl⟩ := List.mem_iff_getElem.1 h
  have := mem_uniqTo (G := G) G.length (Nat.le_refl _) j hj
  rwa [getElem!_pos G j hj] at this
/-- An element of an increasing row has its index as its rank. -/
theorem rankOf_at {G : List Tn} (h : G.Pairwise (fun s t => cmpP s t < 0)) {k : Nat} (hk : k < G.length) : rankOf G G[k]! = k ∧ rankHas G G[k]! = true := by
  have h0 : cmpP G[k]! G[k]! = 0 := cmpP_zero.2 rfl
  have hr : rankOf G G[k]! = k := rankOf_eq (by omega) (fun j hj => by
    rw [getElem!_pos G j (by omega), getElem!_pos G k hk]
    exact List.pairwise_iff_getElem.1 h j k (by omega) hk hj) (fun _ => by omega)
  refine ⟨hr, ?_⟩
  unfold rankHas
  rw [hr, decide_eq_true hk, Bool.true_and, h0]
  rfl
/-- Where the elements increase: those before the rank come before, the others do not. -/
theorem rankOf_split {G : List Tn} (h : G.Pairwise (fun s t => cmpP s t < 0)) (t : Tn) {k : Nat} (hk : k < G.length) : decide (cmpP G[k]! t < 0) = decide (k < rankOf G t) := by
  have hle := rankOf_le G t
  rcases Nat.lt_or_ge k (rankOf G t) with hlt | hge
  · rw [decide_eq_true hlt]
    have := List.not_of_lt_findIdx (xs := G) (p := fun x => decide (0 ≤ cmpP x t)) hlt
    rw [getElem!_pos G k hk]
    refine decide_eq_true ?_
    have h2 : ¬ 0 ≤ cmpP G[k] t := by simpa using this
    omega
  · rw [decide_eq_false (show ¬ k < rankOf G t by omega)]
    refine decide_eq_false ?_
    have hr : rankOf G t < G.length := by omega
    have h3 := List.findIdx_getElem (xs := G) (p := fun x => decide (0 ≤ cmpP x t)) (w := hr)
    have h4 : 0 ≤ cmpP G[rankOf G t]! t := by rw [getElem!_pos G _ hr]; exact of_decide_eq_true h3
    intro hc
    by_cases he : rankOf G t = k
    · rw [he] at h4; omega
    · have h5 : cmpP G[rankOf G t]! G[k]! < 0 := by
        rw [getElem!_pos G _ hr, getElem!_pos G k hk]
        exact List.pairwise_iff_getElem.1 h _ k hr hk (by omega)
      have := (cmpP_fit G[rankOf G t]! G[k]! t).1 h5 hc
      omega
theorem countP_not {L : List Tn} {q : Tn → Bool} {t : Tn} (hq : ∀ x ∈ L, q x = true ↔ x = t) (h : t ∉ L) : L.countP q = 0 := by
  rw [List.countP_eq_zero]
  intro x hx hqx
  exact h ((hq x hx).1 hqx ▸ hx)
theorem countP_mem {q : Tn → Bool} {t : Tn} : ∀ {L : List Tn}, L.Pairwise (fun s t => cmpP s t < 0) → (∀ x ∈ L, q x = true ↔ x = t) → t ∈ L → L.countP q = 1
  | [], _, _, h => by cases h
  | x :: r, hp, hq, h => by
    rw [List.pairwise_cons] at hp
    by_cases hx : x = t
    · subst hx
      have hn : x ∉ r := fun hm => by have := hp.1 x hm; rw [cmpP_zero.2 rfl] at this; omega
      rw [List.countP_cons, countP_not (fun y hy => hq y (List.mem_cons_of_mem _ hy)) hn, if_pos ((hq x List.mem_cons_self).2 rfl)]
    · have hm : t ∈ r := by
        rcases List.mem_cons.1 h with h | h
        · exact absurd h.symm hx
        · exact h
      rw [List.countP_cons, countP_mem hp.2 (fun y hy => hq y (List.mem_cons_of_mem _ hy)) hm, if_neg (fun e => hx ((hq x List.mem_cons_self).1 e))]
/-- How often a term occurs depends on the elements alone. -/
theorem countF_perm {F G : Fo} (h : (toL F).Perm (toL G)) (p : Pay) (l : Fo) : countF F p l = countF G p l := h.countP_eq _
theorem count_iff {F : Fo} (hv : allV F = true) (p : Pay) (l : Fo) : ∀ x ∈ toL F, (validB x.1 x.2 && sameT x.1 x.2 p l) = true ↔ x = (p, l) := by
  intro x hx
  rw [allV_iff.1 hv x hx, Bool.true_and, sameT_eq]
  exact ⟨fun h => Prod.ext h.1 h.2, fun h => by rw [h]; exact ⟨rfl, rfl⟩⟩
theorem countF_one {F : Fo} (hv : allV F = true) (hp : (toL F).Pairwise (fun s t => cmpP s t < 0)) {p : Pay} {l : Fo} (h : (p, l) ∈ toL F) : countF F p l = 1 := countP_mem hp (count_iff hv p l) h
theorem countF_zero {F : Fo} (hv : allV F = true) {p : Pay} {l : Fo} (h : (p, l) ∉ toL F) : countF F p l = 0 := countP_not (count_iff hv p l) h
theorem countF_pos {F : Fo} (hv : allV F = true) {p : Pay} {l : Fo} (h : (p, l) ∈ toL F) : countF F p l ≠ 0 := by
  intro e
  have := List.countP_eq_zero.1 e (p, l) h
  exact this ((count_iff hv p l _ h).2 rfl)
/-- A term is found exactly where it occurs once. -/
theorem rankHas_iff {F : Fo} (hv : allV F = true) (hp : (toL F).Pairwise (fun s t => cmpP s t < 0)) (p : Pay) (l : Fo) : rankHas (toL F) (p, l) = (((countF F p l : Nat) : Int) == 1) := by
  by_cases h : (p, l) ∈ toL F
  · rw [countF_one hv hp h]
    obtain ⟨k, hk, e⟩ := List.mem_iff_getElem.1 h
    have := (rankOf_at hp hk).2
    rw [getElem!_pos (toL F) k hk, e] at this
    rw [this]
    rfl
  · rw [countF_zero hv h]
    show _ = false
    unfold rankHas
    by_cases hr : rankOf (toL F) (p, l) < (toL F).length
    · rw [decide_eq_true hr, Bool.true_and, decide_eq_false]
      intro e
      rw [getElem!_pos (toL F) _ hr] at e
      exact h (cmpP_zero.1 e ▸ List.getElem_mem hr)
    · rw [decide_eq_false hr, Bool.false_and]
end Tm
end Go.Proofs.YtcjakmafojbhlaaDoor
