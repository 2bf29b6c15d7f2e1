/-
  REGIONS BY WHAT THE SLOTS HOLD: in the order of the text a list of slots with what they hold, that grows at its head; in any order, what holds in the end; loops that count.
-/
import Derived.Test.YtapcnehpechkpaaOpl
import Derived.IntWalk
import Derived.LoopN
namespace Go.Proofs.Ytapcnehpechkpaa
set_option linter.unusedVariables false
set_option linter.unusedSimpArgs false
set_option maxRecDepth 100000
open Go.RowKit

abbrev Env := List (Nat × Kd)
/-- What a slot holds: the first entry counts. -/
def look (env : Env) (t : Nat) : Option Kd := (env.find? fun e => e.1 == t).map (·.2)
theorem look_cons (d : Nat) (k : Kd) (env : Env) (t : Nat) : look ((d, k) :: env) t = if d == t then some k else look env t := by
  unfold look
  rw [List.find?_cons]
  cases h : d == t <;> rfl
structure Hold (N : Nat) (env : Env) (w0 : World) (a : Act) (w : World) : Prop where
  size : a.tmps.size = N
  defers : a.defers = []
  world : Below w0.heap.size w0 w
  slots : ∀ t k, look env t = some k → k.R (a.tmps.getD t undef) w
theorem Hold.get {N : Nat} {env : Env} {w0 w : World} {a : Act} (h : Hold N env w0 a w) (t : Nat) {k : Kd} (hk : look env t = some k) : k.R (a.tmps.getD t undef) w := h.slots t k hk
theorem Hold.put {N : Nat} {env : Env} {w0 w w' : World} {a : Act} {d : Nat} {k : Kd} {v : Value} (h : Hold N env w0 a w) (hd : d < N) (hv : k.R v w') (hb : Below w.heap.size w w') : Hold N ((d, k) :: env) w0 (a.put (some d) v) w' := by
  refine ⟨put_size.trans h.size, h.defers, h.world.trans (hb.mono h.world.size), fun t k' hk => ?_⟩
  rw [look_cons] at hk
  by_cases e : d = t
  · subst e
    rw [if_pos (by simp)] at hk
    cases hk
    rw [put_self (by rw [h.size]; exact hd)]
    exact hv
  · rw [if_neg (by simpa using e)] at hk
    rw [put_other (fun e' => e e'.symm)]
    exact Kd.keep (h.slots t k' hk) hb
/-- Only some slots are wanted on. -/
theorem Hold.keep {N : Nat} {env : Env} {w0 w : World} {a : Act} (h : Hold N env w0 a w) (ks : List Nat) : Hold N (ks.filterMap fun t => (look env t).map fun k => (t, k)) w0 a w := by
  refine ⟨h.size, h.defers, h.world, fun t k hk => h.slots t k ?_⟩
  unfold look at hk
  obtain ⟨e, he, rfl⟩ := Option.map_eq_some_iff.1 hk
  have h1 := List.find?_some he
  have h2 := List.mem_of_find?_eq_some he
  obtain ⟨t', _, h3⟩ := List.mem_filterMap.1 h2
  obtain ⟨k', h4, rfl⟩ := Option.map_eq_some_iff.1 h3
  have : t' = t := by simpa using h1
  subst this
  exact h4

section
variable {ops : Array Oper} {Q : Exit → Act → World → Prop} {N : Nat} {env : Env} {w0 w : World} {a : Act}

abbrev EnvStep (ops : Array Oper) (Q : Exit → Act → World → Prop) (N : Nat) (env : Env) (i : Nat) (k : Kd) : Prop := Step Try.prog ops Q (fun j => if j = i then k else .any) (fun _ => N) (look env) N i
theorem env_run {i d : Nat} {k : Kd} {rest : List Nat} {o : Oper} (hs : EnvStep ops Q N env i k) (ho : ops[i]? = some o) (hd : o.dst = some d) (hN : d < N) (st : Hold N env w0 a w)
    (h : ∀ a' w', Hold N ((d, k) :: env) w0 a' w' → wpOps Try.prog ops Q rest a' w') : o.wp Try.prog a w (wpOps Try.prog ops Q rest) Q := by
  refine hs o ho a w ⟨st.size, st.slots, fun j o' _ hji _ => ?_⟩ _ fun v w' hv hb => ?_
  · rw [if_neg (by omega)]; trivial
  · rw [hd]
    have hv : (if i = i then k else Kd.any).R v w' := hv
    rw [if_pos rfl] at hv
    exact h _ _ (st.put hN hv hb)
theorem env_one {i d : Nat} {k : Kd} {rest : List Nat} (hs : EnvStep ops Q N env i k) (hd : (ops[i]?).map (fun o => (o.dst, o.guard)) = some (some d, none)) (hN : d < N) (st : Hold N env w0 a w)
    (h : ∀ a' w', Hold N ((d, k) :: env) w0 a' w' → wpOps Try.prog ops Q rest a' w') : wpOps Try.prog ops Q (i :: rest) a w := by
  cases ho : ops[i]? with
  | none => rw [ho] at hd; cases hd
  | some o =>
    rw [ho] at hd
    have hd := Option.some.inj hd
    simp only [Prod.mk.injEq] at hd
    simp only [wpOps, ho, wanted_free hd.2, if_true]
    exact .inl (env_run hs ho hd.1 hN st h)
theorem env_yield {g dg : Nat} {b : Bool} (hg : (ops[g]?).bind (·.dst) = some dg) (hN : dg < N) (hl : look env dg = some (.val (.bool b))) (st : Hold N env w0 a w) : yielded ops a.tmps g = some b := by
  have hv : a.tmps.getD dg undef = .bool b := st.slots _ _ hl
  have hlt : dg < a.tmps.size := by rw [st.size]; exact hN
  have ht : a.tmps[dg]? = some (.bool b) := by
    rw [Array.getElem?_eq_getElem hlt]
    have : a.tmps.getD dg undef = a.tmps[dg] := by simp [hlt]
    rw [← this, hv]
  unfold yielded
  rw [hg]
  simp only [Option.bind_some, ht]
theorem env_guard {i d g dg : Nat} {b : Bool} {k : Kd} {rest : List Nat} (hs : EnvStep ops Q N env i k) (hd : (ops[i]?).map (fun o => (o.dst, o.guard)) = some (some d, some (g, b))) (hN : d < N)
    (hg : (ops[g]?).bind (·.dst) = some dg) (hgN : dg < N) (hl : look env dg = some (.val (.bool b))) (st : Hold N env w0 a w)
    (h : ∀ a' w', Hold N ((d, k) :: env) w0 a' w' → wpOps Try.prog ops Q rest a' w') : wpOps Try.prog ops Q (i :: rest) a w := by
  cases ho : ops[i]? with
  | none => rw [ho] at hd; cases hd
  | some o =>
    rw [ho] at hd
    have hd := Option.some.inj hd
    simp only [Prod.mk.injEq] at hd
    have hw : Region.wanted o (yielded ops a.tmps) = true := by
      unfold Region.wanted
      rw [hd.2]
      simp only [env_yield hg hgN hl st]
      cases b <;> rfl
    simp only [wpOps, ho, hw, if_true]
    exact .inl (env_run hs ho hd.1 hN st h)
/-- What is not a given truth value: the other one, or nothing. -/
def Kd.no (b : Bool) : Kd → Bool
  | .val (.bool c) => c != b
  | .val (.tuple _) => true
  | _ => false
theorem Kd.no_spec {b : Bool} {k : Kd} {v : Value} {w : World} (h : k.no b = true) (hv : k.R v w) : v ≠ .bool b := by
  unfold Kd.no at h
  split at h
  · rename_i c
    have e : v = .bool c := hv
    subst e
    intro e
    cases e
    simp at h
  · have e : v = .tuple _ := hv
    subst e
    intro e
    cases e
  · cases h
theorem yield_ne {g dg : Nat} {b : Bool} {tmps : Array Value} (hg : (ops[g]?).bind (·.dst) = some dg) (hne : tmps.getD dg undef ≠ .bool b) : yielded ops tmps g ≠ some b := by
  intro h
  unfold yielded at h
  rw [hg] at h
  simp only [Option.bind_some] at h
  split at h
  · rename_i c hc
    cases h
    apply hne
    obtain ⟨hlt, he⟩ := Array.getElem?_eq_some_iff.1 hc
    rw [← he]
    simp [hlt]
  · cases h
theorem not_wanted {o : Oper} {g : Nat} {b : Bool} {y : Nat → Option Bool} (hd : o.guard = some (g, b)) (hne : y g ≠ some b) : Region.wanted o y = false := by
  unfold Region.wanted
  rw [hd]
  simpa using hne
theorem env_skip {i d g dg : Nat} {b : Bool} {kg : Kd} {rest : List Nat} (hd : (ops[i]?).map (fun o => (o.dst, o.guard)) = some (some d, some (g, b))) (hN : d < N)
    (hg : (ops[g]?).bind (·.dst) = some dg) (hl : look env dg = some kg) (hk : kg.no b = true) (st : Hold N env w0 a w)
    (h : ∀ a' w', Hold N ((d, .val undef) :: env) w0 a' w' → wpOps Try.prog ops Q rest a' w') : wpOps Try.prog ops Q (i :: rest) a w := by
  cases ho : ops[i]? with
  | none => rw [ho] at hd; cases hd
  | some o =>
    rw [ho] at hd
    have hd := Option.some.inj hd
    simp only [Prod.mk.injEq] at hd
    have hw : Region.wanted o (yielded ops a.tmps) = false := not_wanted hd.2 (yield_ne hg (Kd.no_spec hk (st.slots _ _ hl)))
    simp only [wpOps, ho, hw]
    rw [hd.1]
    exact h _ _ (st.put (k := .val undef) hN rfl (Below.refl _ _))
/-- A new variable, written at once. -/
theorem env_box {i d s : Nat} {rest : List Nat} {p : Pay} {l : Fo} (hop : (ops[i]?).map (fun o => (o.op, o.dst, o.guard)) = some (.alloc 24, some d, none)) (hN : d < N)
    (hst : (ops[i + 1]?).map (fun o => (o.op, o.dst, o.guard)) = some (.store 24 (.tmp d) (.tmp s), none, none)) (hne : s ≠ d) (hs : look env s = some (.term p l)) (st : Hold N env w0 a w)
    (h : ∀ a' w', Hold N ((d, .ptrT p l) :: env) w0 a' w' → wpOps Try.prog ops Q rest a' w') : wpOps Try.prog ops Q (i :: (i + 1) :: rest) a w := by
  cases ho : ops[i]? with
  | none => rw [ho] at hop; cases hop
  | some o =>
  cases ho2 : ops[i + 1]? with
  | none => rw [ho2] at hst; cases hst
  | some o2 =>
    rw [ho] at hop
    rw [ho2] at hst
    have hop := Option.some.inj hop
    have hst := Option.some.inj hst
    obtain ⟨dst, op, ty, pos, after, guard⟩ := o
    obtain ⟨dst2, op2, ty2, pos2, after2, guard2⟩ := o2
    simp only [Prod.mk.injEq] at hop hst
    obtain ⟨e1, e2, e3⟩ := hst
    obtain ⟨e4, e5, e6⟩ := hop
    subst e1 e2 e3 e4 e5 e6
    obtain ⟨A, c, e, ha⟩ := st.slots _ _ hs
    have hDi : d < a.tmps.size := by rw [st.size]; exact hN
    simp only [wpOps, ho, wanted_free (o := ⟨some d, _, ty, pos, after, none⟩) rfl, if_true]
    refine .inl (wp_alloc_op ?_)
    simp only [wpOps, ho2, wanted_free (o := ⟨none, _, ty2, pos2, after2, none⟩) rfl, if_true]
    have ev1 : (a.put (some d) (.pointer (some ⟨w.heap.size, 0, none⟩))).eval (.tmp d) = .pointer (some ⟨w.heap.size, 0, none⟩) := put_self hDi
    have ev2 : (a.put (some d) (.pointer (some ⟨w.heap.size, 0, none⟩))).eval (.tmp s) = tv p A (Tm.len l) c := (put_other hne).trans e
    refine .inl (wp_store_op p A (Tm.len l) c ev1 ev2 ?_)
    have hb : Below w.heap.size w (w.alloc (.cells #[.int .i64 p.1, .int .i64 p.2.1, .string p.2.2, .slice A (Tm.len l) c] 24)) := (Below.refl _ _).alloc (Nat.le_refl _) _
    exact h _ _ (st.put (k := .ptrT p l) hN (box_R w p l A c ha) hb)
/-- A new variable, written behind an assignment. -/
theorem env_box3 {i d s e x : Nat} {k : Kd} {rest : List Nat} {p : Pay} {l : Fo} (hop : (ops[i]?).map (fun o => (o.op, o.dst, o.guard)) = some (.alloc 24, some d, none)) (hN : d < N)
    (hop2 : (ops[i + 1]?).map (fun o => (o.op, o.dst, o.guard)) = some (.assign (.tmp x), some e, none)) (heN : e < N) (hx : look env x = some k) (hxd : x ≠ d) (hed : d ≠ e)
    (hst : (ops[i + 2]?).map (fun o => (o.op, o.dst, o.guard)) = some (.store 24 (.tmp d) (.tmp s), none, none)) (hne : s ≠ d) (hse : s ≠ e) (hs : look env s = some (.term p l)) (st : Hold N env w0 a w)
    (h : ∀ a' w', Hold N ((e, k) :: (d, .ptrT p l) :: env) w0 a' w' → wpOps Try.prog ops Q rest a' w') : wpOps Try.prog ops Q (i :: (i + 1) :: (i + 2) :: rest) a w := by
  cases ho : ops[i]? with
  | none => rw [ho] at hop; cases hop
  | some o =>
  cases hoa : ops[i + 1]? with
  | none => rw [hoa] at hop2; cases hop2
  | some oa =>
  cases ho2 : ops[i + 2]? with
  | none => rw [ho2] at hst; cases hst
  | some o2 =>
    rw [ho] at hop
    rw [hoa] at hop2
    rw [ho2] at hst
    have hop := Option.some.inj hop
    have hop2 := Option.some.inj hop2
    have hst := Option.some.inj hst
    obtain ⟨dst, op, ty, pos, after, guard⟩ := o
    obtain ⟨dsta, opa, tya, posa, aftera, guarda⟩ := oa
    obtain ⟨dst2, op2, ty2, pos2, after2, guard2⟩ := o2
    simp only [Prod.mk.injEq] at hop hop2 hst
    obtain ⟨e1, e2, e3⟩ := hst
    obtain ⟨e4, e5, e6⟩ := hop
    obtain ⟨e7, e8, e9⟩ := hop2
    subst e1 e2 e3 e4 e5 e6 e7 e8 e9
    obtain ⟨A, c, ev, ha⟩ := st.slots _ _ hs
    have hDi : d < a.tmps.size := by rw [st.size]; exact hN
    simp only [wpOps, ho, wanted_free (o := ⟨some d, _, ty, pos, after, none⟩) rfl, if_true]
    refine .inl (wp_alloc_op ?_)
    simp only [wpOps, hoa, wanted_free (o := ⟨some e, _, tya, posa, aftera, none⟩) rfl, if_true]
    refine .inl (wp_assign_op ?_)
    have evm : (a.put (some d) (.pointer (some ⟨w.heap.size, 0, none⟩))).eval (.tmp x) = a.tmps.getD x undef := put_other hxd
    rw [evm]
    simp only [wpOps, ho2, wanted_free (o := ⟨none, _, ty2, pos2, after2, none⟩) rfl, if_true]
    have ev1 : ((a.put (some d) (.pointer (some ⟨w.heap.size, 0, none⟩))).put (some e) (a.tmps.getD x undef)).eval (.tmp d) = .pointer (some ⟨w.heap.size, 0, none⟩) := (put_other hed).trans (put_self hDi)
    have ev2 : ((a.put (some d) (.pointer (some ⟨w.heap.size, 0, none⟩))).put (some e) (a.tmps.getD x undef)).eval (.tmp s) = tv p A (Tm.len l) c := (put_other hse).trans ((put_other hne).trans ev)
    refine .inl (wp_store_op p A (Tm.len l) c ev1 ev2 ?_)
    have hb : Below w.heap.size w (w.alloc (.cells #[.int .i64 p.1, .int .i64 p.2.1, .string p.2.2, .slice A (Tm.len l) c] 24)) := (Below.refl _ _).alloc (Nat.le_refl _) _
    have s1 := st.put (k := .ptrT p l) hN (box_R w p l A c ha) hb
    exact h _ _ (s1.put (k := k) (v := a.tmps.getD x undef) heN (Kd.keep (st.slots _ _ hx) hb) (Below.refl _ _))

/-! ### in any order, guards of both kinds -/
def Kd.isB (b : Bool) : Kd → Bool
  | .val (.bool c) => c == b
  | _ => false
theorem Kd.isB_spec {b : Bool} {k : Kd} (h : k.isB b = true) : k = .val (.bool b) := by
  unfold Kd.isB at h
  split at h
  · rename_i c; have : c = b := by simpa using h
    subst this; rfl
  · cases h
def Kd.isU : Kd → Bool
  | .val (.tuple vs) => vs.isEmpty
  | _ => false
theorem Kd.isU_spec {k : Kd} (h : k.isU = true) : k = .val undef := by
  unfold Kd.isU at h
  split at h
  · rename_i vs
    rw [Array.isEmpty_iff.1 h]; rfl
  · cases h
/-- Whether an operation runs. -/
def runs (E : Nat → Kd) (o : Oper) : Bool := match o.guard with | none => true | some (g, b) => (E g).isB b
def goodOp3 (E : Nat → Kd) (D : Nat → Nat) (base : Nat → Option Kd) (N i : Nat) (o : Oper) : Bool :=
  (o.after.all fun e => decide (e.on < i) && Region.binds .any e) && (match o.guard with | none => true | some (g, b) => (o.after.any fun e => e.on == g) && ((E g).isB b || ((E g).no b && (E i).isU))) && (o.dst == some (D i)) && decide (D i < N) && (base (D i)).isNone
def goodAll3 (E : Nat → Kd) (D : Nat → Nat) (base : Nat → Option Kd) (N : Nat) : Nat → List Oper → Bool
  | _, [] => true
  | i, o :: os => goodOp3 E D base N i o && goodAll3 E D base N (i + 1) os
theorem goodAll3_spec {E : Nat → Kd} {D : Nat → Nat} {base : Nat → Option Kd} : ∀ (os : List Oper) (n : Nat), goodAll3 E D base N n os = true → ∀ i o, os[i]? = some o → goodOp3 E D base N (n + i) o = true
  | [], _, _, i, o, h => by cases h
  | x :: xs, n, hg, i, o, h => by
    simp only [goodAll3, Bool.and_eq_true] at hg
    cases i with
    | zero => cases h; exact hg.1
    | succ i =>
      have := goodAll3_spec xs (n + 1) hg.2 i o (by simpa using h)
      rwa [show n + (i + 1) = n + 1 + i by omega]
abbrev RStep (ops : Array Oper) (Q : Exit → Act → World → Prop) (E : Nat → Kd) (D : Nat → Nat) (base : Nat → Option Kd) (N i : Nat) : Prop := (ops[i]?).map (runs E) = some true → Step Try.prog ops Q E D base N i
theorem rstep_skip {E : Nat → Kd} {D : Nat → Nat} {base : Nat → Option Kd} {i : Nat} (h : (ops[i]?).map (runs E) = some false) : RStep ops Q E D base N i := fun h' => by rw [h] at h'; cases h'
theorem any_steps {E : Nat → Kd} {D : Nat → Nat} {base : Nat → Option Kd} (hop : ∀ i o, ops[i]? = some o → goodOp3 E D base N i o = true) (hD : ∀ i j, i < ops.size → j < ops.size → D i = D j → i = j) (hs : ∀ i, i < ops.size → RStep ops Q E D base N i)
    (w0 : World) (hQ : ∀ listed a w, (∀ j, j < ops.size → listed.getD j false = true) → Stt ops E D base N w0 listed a w → Q .normal a w) :
    ∀ (fuel : Nat) (listed : Array Bool) (a : Act) (w : World), cnt ops.size listed ≤ fuel → listed.size = ops.size → Stt ops E D base N w0 listed a w → wpAny Try.prog .any ops Q fuel listed a w := by
  have hpart : ∀ i o, ops[i]? = some o → (∀ e ∈ o.after, e.on < i ∧ Region.binds .any e = true) ∧ o.dst = some (D i) ∧ D i < N ∧ base (D i) = none ∧ (∀ g b, o.guard = some (g, b) → (o.after.any fun e => e.on == g) = true ∧ ((E g).isB b = true ∨ ((E g).no b = true ∧ (E i).isU = true))) := by
    intro i o ho
    have hg := hop i o ho
    unfold goodOp3 at hg
    simp only [Bool.and_eq_true, decide_eq_true_eq, beq_iff_eq, Option.isNone_iff_eq_none] at hg
    obtain ⟨⟨⟨⟨h1, h2⟩, h3⟩, h4⟩, h5⟩ := hg
    refine ⟨fun e he => ?_, h3, h4, h5, fun g b hgd => ?_⟩
    · have := Array.all_eq_true'.1 h1 e he
      rw [Bool.and_eq_true, decide_eq_true_eq] at this
      exact this
    · rw [hgd] at h2
      simp only [Bool.and_eq_true, Bool.or_eq_true] at h2
      exact h2
  have hall : ∀ listed : Array Bool, listed.size = ops.size → Region.ready .any ops listed = [] → ∀ j, j < ops.size → listed.getD j false = true := by
    intro listed hl hr j
    induction j using Nat.strongRecOn with
    | ind j ih =>
      intro hj
      cases hb : listed.getD j false with
      | true => rfl
      | false =>
        exfalso
        have ho : ops[j]? = some ops[j] := Array.getElem?_eq_getElem hj
        have hm : j ∈ Region.ready .any ops listed := mem_ready.2 ⟨by rw [getD_true_of_lt (by omega)]; exact hb, ops[j], ho, fun e he hbind => by
          have h1 := (hpart j _ ho).1 e he
          exact ih e.on h1.1 (Nat.lt_trans h1.1 hj)⟩
        rw [hr] at hm
        cases hm
  intro fuel
  induction fuel with
  | zero =>
    intro listed a w hc hl st
    have hr : Region.ready .any ops listed = [] := by
      cases hr : Region.ready .any ops listed with
      | nil => rfl
      | cons i rest =>
        exfalso
        have hm : i ∈ Region.ready .any ops listed := by rw [hr]; exact List.mem_cons_self ..
        obtain ⟨hun, o, ho, _⟩ := mem_ready.1 hm
        have hlt : i < ops.size := (Array.getElem?_eq_some_iff.1 ho).1
        have : 0 < (List.range ops.size).countP fun j => !listed.getD j true := List.countP_pos_iff.2 ⟨i, List.mem_range.2 hlt, by simp only [hun]; rfl⟩
        unfold cnt at hc
        omega
    exact ⟨hr, hQ listed a w (hall listed hl hr) st⟩
  | succ fuel ih =>
    intro listed a w hc hl st
    refine ⟨fun hr => hQ listed a w (hall listed hl hr) st, fun i hi => ?_⟩
    obtain ⟨hun, o, ho, hdep⟩ := mem_ready.1 hi
    have hlt : i < ops.size := (Array.getElem?_eq_some_iff.1 ho).1
    obtain ⟨hon, hdst, hDN, hbase, hgrd⟩ := hpart i o ho
    have hdone : ∀ j, (o.after.any fun e => e.on == j) = true → (E j).R (a.tmps.getD (D j) undef) w := by
      intro j hj
      obtain ⟨e, he, hej⟩ := Array.any_eq_true'.1 hj
      have : e.on = j := by simpa using hej
      subst this
      exact st.done e.on (by have := (hon e he).1; omega) (hdep e he (hon e he).2)
    have hil : i < listed.size := by omega
    have hgo : ∀ v w', (E i).R v w' → Below w.heap.size w w' → wpAny Try.prog .any ops Q fuel (listed.setIfInBounds i true) (a.put o.dst v) w' := by
      intro v w' hv hb
      refine ih _ _ _ ?_ (by simpa using hl) ?_
      · have : cnt ops.size (listed.setIfInBounds i true) < cnt ops.size listed := by
          unfold cnt
          refine countP_lt _ (fun x _ hx => ?_) i (List.mem_range.2 hlt) (by simp only [hun]; rfl) (by simp [hil])
          by_cases hxi : i = x
          · subst hxi
            simp [hil] at hx
          · rw [getD_set_ne true hxi] at hx
            exact hx
        omega
      · rw [hdst]
        have hDa : D i < a.tmps.size := by rw [st.size]; exact hDN
        refine ⟨put_size.trans st.size, st.defers, st.world.trans (hb.mono st.world.size), fun t k hk => ?_, fun j hj hjl => ?_⟩
        · rw [put_other (fun e => by subst e; rw [hk] at hbase; cases hbase)]
          exact Kd.keep (st.base t k hk) hb
        · by_cases hji : j = i
          · subst hji
            rw [put_self hDa]
            exact hv
          · rw [put_other (fun e => hji (hD j i hj hlt e))]
            rw [getD_set_ne false (Ne.symm hji)] at hjl
            exact Kd.keep (st.done j hj hjl) hb
    have hyield : ∀ g b, (o.after.any fun e => e.on == g) = true → (E g).isB b = true → yielded ops a.tmps g = some b := by
      intro g b hga hE
      have hv := hdone g hga
      rw [Kd.isB_spec hE] at hv
      have hv' : a.tmps.getD (D g) undef = .bool b := hv
      obtain ⟨e, he, hej⟩ := Array.any_eq_true'.1 hga
      have hge : e.on = g := by simpa using hej
      have hgl : g < ops.size := by have := (hon e he).1; omega
      have hgo : ops[g]? = some ops[g] := Array.getElem?_eq_getElem hgl
      obtain ⟨_, h2, h3, _⟩ := hpart g _ hgo
      have hlt2 : D g < a.tmps.size := by rw [st.size]; exact h3
      have ht : a.tmps[D g]? = some (.bool b) := by
        rw [Array.getElem?_eq_getElem hlt2]
        have : a.tmps.getD (D g) undef = a.tmps[D g] := by simp [hlt2]
        rw [← this, hv']
      unfold yielded
      rw [hgo]
      simp only [Option.bind_some, h2, ht]
    have hrun : runs E o = true → Region.wanted o (yielded ops a.tmps) = true := by
      intro hr
      unfold runs at hr
      unfold Region.wanted
      cases hgd : o.guard with
      | none => rfl
      | some gb =>
        obtain ⟨g, b⟩ := gb
        rw [hgd] at hr
        simp only [hyield g b (hgrd g b hgd).1 hr]
        cases b <;> rfl
    unfold wpOp
    simp only [ho]
    cases hr : runs E o with
    | true =>
      simp only [hrun hr, if_true]
      exact .inl (hs i hlt (by rw [ho]; exact congrArg some hr) o ho a w ⟨st.size, st.base, fun j o' ho' _ hj => by rw [ho] at ho'; cases ho'; exact hdone j hj⟩ _ hgo)
    | false =>
      unfold runs at hr
      cases hgd : o.guard with
      | none => rw [hgd] at hr; cases hr
      | some gb =>
        obtain ⟨g, b⟩ := gb
        rw [hgd] at hr
        have hr : (E g).isB b = false := hr
        obtain ⟨h1, h2⟩ := hgrd g b hgd
        rcases h2 with h2 | ⟨h2, h3⟩
        · rw [h2] at hr; cases hr
        · have hw : Region.wanted o (yielded ops a.tmps) = false := by
            obtain ⟨e, he, hej⟩ := Array.any_eq_true'.1 h1
            have hge : e.on = g := by simpa using hej
            have hgl : g < ops.size := by have := (hon e he).1; omega
            have hgo : ops[g]? = some ops[g] := Array.getElem?_eq_getElem hgl
            refine not_wanted hgd (yield_ne (dg := D g) ?_ (Kd.no_spec h2 (hdone g h1)))
            rw [hgo]
            exact (hpart g _ hgo).2.1
          rw [hw]
          exact hgo undef w (by rw [Kd.isU_spec h3]; rfl) (Below.refl _ _)
theorem look_zip (env : Env) : ∀ (Ds : List Nat) (Es : List Kd) (t : Nat) (k : Kd), look (Ds.zip Es ++ env) t = some k → (∃ i, i < Es.length ∧ Ds[i]? = some t ∧ Es[i]? = some k) ∨ look env t = some k
  | [], _, t, k, h => .inr h
  | _ :: _, [], t, k, h => .inr h
  | d :: ds, e :: es, t, k, h => by
    rw [List.zip_cons_cons, List.cons_append, look_cons] at h
    by_cases hd : d = t
    · subst hd
      rw [if_pos (by simp)] at h
      cases h
      exact .inl ⟨0, by simp, rfl, rfl⟩
    · rw [if_neg (by simpa using hd)] at h
      rcases look_zip env ds es t k h with ⟨i, h1, h2, h3⟩ | h
      · exact .inl ⟨i + 1, by simpa using h1, by simpa using h2, by simpa using h3⟩
      · exact .inr h
/-- A region that draws its order. -/
theorem env_any {id : Nat} (Ds : List Nat) (Es : List Kd) (hsz : ops.size = Es.length) (hg : goodAll3 (fun i => (Es[i]?).getD .any) (fun i => (Ds[i]?).getD (1000 + i)) (look env) N 0 ops.toList = true) (hD : ∀ i, i < Es.length → ∀ j, j < Es.length → (Ds[i]?).getD (1000 + i) = (Ds[j]?).getD (1000 + j) → i = j)
    (hs : ∀ i, i < Es.length → RStep ops Q (fun i => (Es[i]?).getD .any) (fun i => (Ds[i]?).getD (1000 + i)) (look env) N i) (st : Hold N env w0 a w)
    (hQ : ∀ a' w', Hold N (Ds.zip Es ++ env) w0 a' w' → Q .normal a' w') : (Code.region id ops true).wp Try.prog Q a w := by
  refine wp_region_any (by kernel_rfl) (any_steps (E := fun i => (Es[i]?).getD .any) (D := fun i => (Ds[i]?).getD (1000 + i)) (base := look env) (N := N) (fun i o ho => ?_) (fun i j hi hj he => hD i (by omega) j (by omega) he) (fun i hi => hs i (by omega)) w0 (fun listed a' w' hl s => ?_) ops.size _ a _ ?_ (by simp) ?_)
  · have := goodAll3_spec _ 0 hg i o (by rw [Array.getElem?_toList]; exact ho)
    rwa [Nat.zero_add] at this
  · refine hQ a' w' ⟨s.size, s.defers, s.world, fun t k hk => ?_⟩
    rcases look_zip env Ds Es t k hk with ⟨i, h1, h2, h3⟩ | h
    · have := s.done i (by omega) (hl i (by omega))
      simp only [h2, h3, Option.getD_some] at this
      exact this
    · exact s.base t k h
  · unfold cnt
    exact Nat.le_trans (List.countP_le_length) (by simp)
  · have hb : Below w.heap.size w { w with drawn := w.drawn + 1 } := ⟨rfl, rfl, rfl, Nat.le_refl _, fun _ _ => rfl⟩
    refine ⟨st.size, st.defers, st.world.trans (hb.mono st.world.size), fun t k hk => Kd.keep (st.slots t k hk) hb, fun j hj hl => ?_⟩
    simp [hj] at hl

/-! ### loops that count -/
/-- A loop whose body goes n times through and then leaves. -/
theorem wp_for {c : Code} {n : Nat} (J : Nat → Act → World → Prop) (h0 : J 0 a w) (step : ∀ k a w, k < n → J k a w → c.wp Try.prog (Exit.then (J (k + 1)) Q) a w) (last : ∀ a w, J n a w → c.wp Try.prog (Exit.then (fun _ _ => False) Q) a w) : (Code.loop c).wp Try.prog Q a w := by
  have key : ∀ m k a w, k + m = n → J k a w → Code.rounds Try.prog c Q (m + 1) a w := by
    intro m
    induction m with
    | zero =>
      intro k a w hk hj
      obtain rfl : k = n := by omega
      rw [rounds_succ]
      exact last a w hj
    | succ m ih =>
      intro k a w hk hj
      rw [rounds_succ]
      refine Code.wp_mono ?_ (step k a w (by omega) hj)
      intro e a' w' h
      cases e with
      | normal => exact ih (k + 1) a' w' (by omega) h
      | _ => exact h
  exact wp_loop_rounds (n + 1) (key n 0 a w (by omega) h0)
theorem then_ret (K : Act → World → Prop) : Exit.then K Q .ret a w = Q .ret a w := rfl
theorem block_ret (id : Nat) : Exit.inBlock id Q .ret a w = Q .ret a w := rfl
theorem then_normal (K : Act → World → Prop) : Exit.then K Q .normal a w = K a w := rfl
theorem block_normal (id : Nat) : Exit.inBlock id Q .normal a w = Q .normal a w := rfl
theorem then_exit (K : Act → World → Prop) (id : Nat) : Exit.then K Q (.exit id) a w = Q (.exit id) a w := rfl
theorem block_exit (id : Nat) : Exit.inBlock id Q (.exit id) a w = Q .normal a w := by show (if id = id then _ else _) = _; rw [if_pos rfl]
/-- At the end: the result is a slot. -/
theorem law_fin {fn : Func} {t : Tmp} (hres : fn.results = #[.tmp t]) {R : Ending → World → Prop} (h : (Kd.val (.bool true)).R (a.tmps.getD t undef) w) (hd : a.defers = []) (hR : R (.returned (.bool true)) w) : bodyPost Try.prog fn R .ret a w := by
  have h' : a.tmps.getD t undef = .bool true := h
  refine bodyPost_ret (v := .bool true) ?_ hd hR
  rw [← h']
  exact results_tmp hres a.tmps Try.prog w
theorem env_cond {x : Tmp} {p q : Code} {b : Bool} (hl : look env x = some (.val (.bool b))) (st : Hold N env w0 a w) (h : (if b then p else q).wp Try.prog Q a w) : (Code.cond (.tmp x) p q).wp Try.prog Q a w :=
  wp_cond (t := b) (st.slots _ _ hl) h
end
end Go.Proofs.Ytapcnehpechkpaa
