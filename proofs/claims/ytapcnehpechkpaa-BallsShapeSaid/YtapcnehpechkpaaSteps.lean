/-
  A REGION THAT DRAWS ITS ORDER, by what each operation leaves in its slot: if every operation leaves what is said of it whatever came before it apart from those that it waits for, then in the end all slots hold what is said, whatever the order.
-/
import Derived.Test.YtapcnehpechkpaaOnly
import Derived.Lib.SmallJoins
import Derived.Orders
namespace Go.Proofs.Ytapcnehpechkpaa
set_option linter.unusedVariables false
set_option linter.unusedSimpArgs false
set_option maxRecDepth 100000
open Go.RowKit

/-- A row of numbers. -/
structure ListIn (w : World) (A : Option Addr) (n : Nat) (L : List Int) : Prop where
  len : L.length = n
  row : 0 < n → ∃ b o, A = some ⟨b, o, none⟩ ∧ b < w.heap.size ∧ ∀ j z, L[j]? = some z → w.cell? ⟨b, o + j, none⟩ = some (.int .i64 z)
theorem ListIn.below {w w' : World} {A : Option Addr} {n : Nat} {L : List Int} (h : ListIn w A n L) (hb : Below w.heap.size w w') : ListIn w' A n L :=
  ⟨h.len, fun hn => by
    obtain ⟨b, o, e, hlt, hc⟩ := h.row hn
    exact ⟨b, o, e, Nat.lt_of_lt_of_le hlt hb.size, fun j z hz => (cell_of_block (p := ⟨b, o + j, none⟩) (hb.block _ hlt)).trans (hc j z hz)⟩⟩
/-- No table of its own is wanted in this stage. -/
def Tabs (w : World) : Prop := True
theorem Tabs.below {w w' : World} (h : Tabs w) (hb : Below w.heap.size w w') : Tabs w' := trivial
/-- Anything else that stays. -/
structure Pd where
  R : Value → World → Prop
  keep : ∀ v w w', R v w → Below w.heap.size w w' → R v w'
/-- What a slot holds. -/
inductive Kd where
  | val (v : Value)
  | term (p : Pay) (l : Fo)
  | row (F : Fo)
  | ints (L : List Int)
  | ptrI (n : Int)
  | ptrS (s : ByteArray)
  | ptrR (F : Fo)
  | ptrT (p : Pay) (l : Fo)
  | rowErr (F : Fo) (e : Int)
  | tabs
  | sat (K : Pd)
  | any
def Kd.R : Kd → Value → World → Prop
  | .val u, v, _ => v = u
  | .term p l, v, w => ∃ A c, v = tv p A (Tm.len l) c ∧ ArgsB w w.heap.size A (Tm.len l) l
  | .row F, v, w => ∃ A c, v = .slice A (Tm.len F) c ∧ ArgsB w w.heap.size A (Tm.len F) F
  | .ints L, v, w => ∃ A c, v = .slice A L.length c ∧ ListIn w A L.length L
  | .ptrI n, v, w => ∃ a : Addr, v = .pointer (some a) ∧ a.block < w.heap.size ∧ w.cell? a = some (.int .i64 n)
  | .ptrS s, v, w => ∃ a : Addr, v = .pointer (some a) ∧ a.block < w.heap.size ∧ w.cell? a = some (.string s)
  | .ptrR F, v, w => ∃ (a : Addr) (A : Option Addr) (c : Nat), v = .pointer (some a) ∧ a.block < w.heap.size ∧ w.cell? a = some (.slice A (Tm.len F) c) ∧ ArgsB w w.heap.size A (Tm.len F) F
  | .ptrT p l, v, w => ∃ b o A c, v = .pointer (some ⟨b, o, none⟩) ∧ b < w.heap.size ∧ NodeAt (fun b => b < w.heap.size) w b o p l A c
  | .rowErr F e, v, w => ∃ A c, v = .tuple #[.slice A (Tm.len F) c, .int .i64 e] ∧ ArgsB w w.heap.size A (Tm.len F) F
  | .tabs, _, w => Tabs w
  | .sat K, v, w => K.R v w
  | .any, _, _ => True
theorem NodeAt.keep {S S' : Nat → Prop} {w w' : World} {b o : Nat} {p : Pay} {l : Fo} {A : Option Addr} {c : Nat} (h : NodeAt S w b o p l A c) (hb : w'.heap[b]? = w.heap[b]?) (hk : ∀ b, S b → w'.heap[b]? = w.heap[b]?) (hS : ∀ b, S b → S' b) : NodeAt S' w' b o p l A c :=
  ⟨(cell_of_block (p := ⟨b, o, none⟩) hb).trans h.kind, (cell_of_block (p := ⟨b, o + 1, none⟩) hb).trans h.num, (cell_of_block (p := ⟨b, o + 2, none⟩) hb).trans h.name, (cell_of_block (p := ⟨b, o + 3, none⟩) hb).trans h.args, (h.inn.keep hk).mono hS⟩
theorem Kd.keep {k : Kd} {v : Value} {w w' : World} (h : k.R v w) (hb : Below w.heap.size w w') : k.R v w' := by
  cases k with
  | val u => exact h
  | term p l => obtain ⟨A, c, e, ha⟩ := h; exact ⟨A, c, e, (ha.below hb (Nat.le_refl _)).up hb.size⟩
  | row F => obtain ⟨A, c, e, ha⟩ := h; exact ⟨A, c, e, (ha.below hb (Nat.le_refl _)).up hb.size⟩
  | ints L => obtain ⟨A, c, e, ha⟩ := h; exact ⟨A, c, e, ha.below hb⟩
  | ptrI n => obtain ⟨a, e, hlt, hc⟩ := h; exact ⟨a, e, Nat.lt_of_lt_of_le hlt hb.size, (cell_of_block (hb.block _ hlt)).trans hc⟩
  | ptrS n => obtain ⟨a, e, hlt, hc⟩ := h; exact ⟨a, e, Nat.lt_of_lt_of_le hlt hb.size, (cell_of_block (hb.block _ hlt)).trans hc⟩
  | ptrR F => obtain ⟨a, A, c, e, hlt, hc, ha⟩ := h; exact ⟨a, A, c, e, Nat.lt_of_lt_of_le hlt hb.size, (cell_of_block (hb.block _ hlt)).trans hc, (ha.below hb (Nat.le_refl _)).up hb.size⟩
  | ptrT p l =>
    obtain ⟨b, o, A, c, e, hlt, hn⟩ := h
    exact ⟨b, o, A, c, e, Nat.lt_of_lt_of_le hlt hb.size, hn.keep (hb.block _ hlt) (fun b' (h' : b' < w.heap.size) => hb.block _ h') (fun b' (h' : b' < w.heap.size) => Nat.lt_of_lt_of_le h' hb.size)⟩
  | rowErr F x => obtain ⟨A, c, e, ha⟩ := h; exact ⟨A, c, e, (ha.below hb (Nat.le_refl _)).up hb.size⟩
  | tabs => exact Tabs.below h hb
  | sat K => exact K.keep _ _ _ h hb
  | any => trivial

section
variable (P : Program) (ops : Array Oper) (Q : Exit → Act → World → Prop) (E : Nat → Kd) (D : Nat → Nat) (base : Nat → Option Kd) (N : Nat)

/-- What operation i may build on. -/
structure Ctx (i : Nat) (a : Act) (w : World) : Prop where
  size : a.tmps.size = N
  base : ∀ t k, base t = some k → k.R (a.tmps.getD t undef) w
  deps : ∀ j o, ops[i]? = some o → j < i → (o.after.any fun e => e.on == j) = true → (E j).R (a.tmps.getD (D j) undef) w
/-- Operation i leaves what is said. -/
def Step (i : Nat) : Prop := ∀ o, ops[i]? = some o → ∀ a w, Ctx ops E D base N i a w → ∀ K : Act → World → Prop, (∀ v w', (E i).R v w' → Below w.heap.size w w' → K (a.put o.dst v) w') → o.wp P a w K Q
/-- The state behind the operations that have come up. -/
structure Stt (w0 : World) (listed : Array Bool) (a : Act) (w : World) : Prop where
  size : a.tmps.size = N
  defers : a.defers = []
  world : Below w0.heap.size w0 w
  base : ∀ t k, base t = some k → k.R (a.tmps.getD t undef) w
  done : ∀ j, j < ops.size → listed.getD j false = true → (E j).R (a.tmps.getD (D j) undef) w

/-- An operation waits for none behind it, is unguarded or guarded by one that is true, and has its own slot. -/
def goodOp (tru : Nat → Bool) (i : Nat) (o : Oper) : Bool :=
  (o.after.all fun e => decide (e.on < i) && Region.binds .any e) && (match o.guard with | none => true | some (g, b) => b && tru g && (o.after.any fun e => e.on == g)) && (o.dst == some (D i)) && decide (D i < N) && (base (D i)).isNone
def Kd.isTrue : Kd → Bool
  | .val (.bool true) => true
  | _ => false
theorem Kd.isTrue_spec {k : Kd} (h : k.isTrue = true) : k = .val (.bool true) := by
  unfold Kd.isTrue at h
  split at h
  · rfl
  · cases h
def cnt (n : Nat) (listed : Array Bool) : Nat := (List.range n).countP fun j => !listed.getD j true
end
theorem countP_lt {p q : Nat → Bool} : ∀ (l : List Nat), (∀ x ∈ l, q x = true → p x = true) → ∀ i ∈ l, p i = true → q i = false → l.countP q < l.countP p
  | [], _, _, hi, _, _ => by cases hi
  | x :: xs, hqp, i, hi, hp, hq => by
    rw [List.countP_cons, List.countP_cons]
    have hle : xs.countP q ≤ xs.countP p := List.countP_mono_left fun y hy => hqp y (List.mem_cons_of_mem _ hy)
    rcases List.mem_cons.1 hi with rfl | hi'
    · rw [hp, hq]; simp; omega
    · have := countP_lt xs (fun y hy => hqp y (List.mem_cons_of_mem _ hy)) i hi' hp hq
      have h1 := hqp x (List.mem_cons_self ..)
      cases hx : q x
      · simp; omega
      · rw [h1 hx]; simp; omega
section
variable {P : Program} {ops : Array Oper} {Q : Exit → Act → World → Prop} {E : Nat → Kd} {D : Nat → Nat} {base : Nat → Option Kd} {N : Nat}

theorem getD_true_of_lt {listed : Array Bool} {j : Nat} (h : j < listed.size) : listed.getD j true = listed.getD j false := by simp [h]
theorem wpAny_steps (hop : ∀ i o, ops[i]? = some o → goodOp D base N (fun g => (E g).isTrue) i o = true) (hD : ∀ i j, i < ops.size → j < ops.size → D i = D j → i = j) (hs : ∀ i, i < ops.size → Step P ops Q E D base N i)
    (w0 : World) (hQ : ∀ listed a w, (∀ j, j < ops.size → listed.getD j false = true) → Stt ops E D base N w0 listed a w → Q .normal a w) :
    ∀ (fuel : Nat) (listed : Array Bool) (a : Act) (w : World), cnt ops.size listed ≤ fuel → listed.size = ops.size → Stt ops E D base N w0 listed a w → wpAny P .any ops Q fuel listed a w := by
  have hall : ∀ listed : Array Bool, listed.size = ops.size → Region.ready .any ops listed = [] → ∀ j, j < ops.size → listed.getD j false = true := by
    intro listed hl hr j
    induction j using Nat.strongRecOn with
    | ind j ih =>
      intro hj
      cases hb : listed.getD j false with
      | true => rfl
      | false =>
        exfalso
        have ho : ops[j]? = some ops[j] := Array.getElem?_eq_getElem hj
        have hm : j ∈ Region.ready .any ops listed := by
          refine mem_ready.2 ⟨by rw [getD_true_of_lt (by omega)]; exact hb, ops[j], ho, fun e he hbind => ?_⟩
          have hg := hop j _ ho
          unfold goodOp at hg
          simp only [Bool.and_eq_true] at hg
          have h1 := Array.all_eq_true'.1 hg.1.1.1.1 e he
          rw [Bool.and_eq_true, decide_eq_true_eq] at h1
          exact ih e.on h1.1 (Nat.lt_trans h1.1 hj)
        rw [hr] at hm
        cases hm
  intro fuel
  induction fuel with
  | zero =>
    intro listed a w hc hl st
    have hr : Region.ready .any ops listed = [] := by
      cases hr : Region.ready .any ops listed with
      | nil => rfl
      | cons i rest =>
        exfalso
        have hm : i ∈ Region.ready .any ops listed := by rw [hr]; exact List.mem_cons_self ..
        obtain ⟨hun, o, ho, _⟩ := mem_ready.1 hm
        have hlt : i < ops.size := (Array.getElem?_eq_some_iff.1 ho).1
        have : 0 < (List.range ops.size).countP fun j => !listed.getD j true := List.countP_pos_iff.2 ⟨i, List.mem_range.2 hlt, by simp only [hun]; rfl⟩
        unfold cnt at hc
        omega
    exact ⟨hr, hQ listed a w (hall listed hl hr) st⟩
  | succ fuel ih =>
    intro listed a w hc hl st
    refine ⟨fun hr => hQ listed a w (hall listed hl hr) st, fun i hi => ?_⟩
    obtain ⟨hun, o, ho, hdep⟩ := mem_ready.1 hi
    have hlt : i < ops.size := (Array.getElem?_eq_some_iff.1 ho).1
    have hg := hop i o ho
    unfold goodOp at hg
    simp only [Bool.and_eq_true, decide_eq_true_eq, beq_iff_eq] at hg
    obtain ⟨⟨⟨⟨hafter, hguard⟩, hdst⟩, hDN⟩, hbase⟩ := hg
    have hon : ∀ e ∈ o.after, e.on < i ∧ Region.binds .any e = true := fun e he => by
      have h1 := Array.all_eq_true'.1 hafter e he
      rw [Bool.and_eq_true, decide_eq_true_eq] at h1
      exact h1
    have hdone : ∀ j, (o.after.any fun e => e.on == j) = true → (E j).R (a.tmps.getD (D j) undef) w := by
      intro j hj
      obtain ⟨e, he, hej⟩ := Array.any_eq_true'.1 hj
      have : e.on = j := by simpa using hej
      subst this
      exact st.done e.on (by have := (hon e he).1; omega) (hdep e he (hon e he).2)
    have hw : Region.wanted o (yielded ops a.tmps) = true := by
      unfold Region.wanted
      cases hgd : o.guard with
      | none => rfl
      | some gb =>
        obtain ⟨g, b⟩ := gb
        rw [hgd] at hguard
        simp only [Bool.and_eq_true] at hguard
        obtain ⟨⟨rfl, htru⟩, hga⟩ := hguard
        have hv := hdone g hga
        rw [Kd.isTrue_spec htru] at hv
        have hv' : a.tmps.getD (D g) undef = .bool true := hv
        obtain ⟨e, he, hej⟩ := Array.any_eq_true'.1 hga
        have hge : e.on = g := by simpa using hej
        have hgl : g < ops.size := by have := (hon e he).1; omega
        have hgo : ops[g]? = some ops[g] := Array.getElem?_eq_getElem hgl
        have hgg := hop g _ hgo
        unfold goodOp at hgg
        simp only [Bool.and_eq_true, decide_eq_true_eq, beq_iff_eq] at hgg
        have hgd2 : (ops[g]?).bind (·.dst) = some (D g) := by rw [hgo]; exact hgg.1.1.2
        have hlt2 : D g < a.tmps.size := by rw [st.size]; exact hgg.1.2
        have ht : a.tmps[D g]? = some (.bool true) := by
          rw [Array.getElem?_eq_getElem hlt2]
          have : a.tmps.getD (D g) undef = a.tmps[D g] := by simp [hlt2]
          rw [← this, hv']
        have hy : yielded ops a.tmps g = some true := by
          unfold yielded
          rw [hgd2]
          simp only [Option.bind_some, ht]
        simp only [hy]
        rfl
    unfold wpOp
    simp only [ho, hw, if_true]
    refine .inl (hs i hlt o ho a w ⟨st.size, st.base, fun j o' ho' _ hj => by rw [ho] at ho'; cases ho'; exact hdone j hj⟩ _ fun v w' hv hb => ?_)
    have hil : i < listed.size := by omega
    refine ih _ _ _ ?_ (by simpa using hl) ?_
    · have : cnt ops.size (listed.setIfInBounds i true) < cnt ops.size listed := by
        unfold cnt
        refine countP_lt _ (fun x _ hx => ?_) i (List.mem_range.2 hlt) (by simp only [hun]; rfl) (by simp [hil])
        by_cases hxi : i = x
        · subst hxi
          simp [hil] at hx
        · rw [getD_set_ne true hxi] at hx
          exact hx
      omega
    · rw [hdst]
      have hDa : D i < a.tmps.size := by rw [st.size]; exact hDN
      have hne : ∀ t, t ≠ D i → (a.put (some (D i)) v).tmps.getD t undef = a.tmps.getD t undef := fun t ht => by
        show (a.tmps.setIfInBounds (D i) v).getD t undef = _
        simp [Array.getElem?_setIfInBounds_ne (Ne.symm ht)]
      have hself : (a.put (some (D i)) v).tmps.getD (D i) undef = v := by
        show (a.tmps.setIfInBounds (D i) v).getD (D i) undef = _
        simp [hDa]
      refine ⟨by show (a.tmps.setIfInBounds (D i) v).size = N; simpa using st.size, st.defers, st.world.trans (hb.mono st.world.size), fun t k hk => ?_, fun j hj hjl => ?_⟩
      · rw [hne t (fun e => by subst e; rw [hk] at hbase; cases hbase)]
        exact Kd.keep (st.base t k hk) hb
      · by_cases hji : j = i
        · subst hji
          rw [hself]
          exact hv
        · rw [hne (D j) (fun e => hji (hD j i hj hlt e))]
          rw [getD_set_ne false (Ne.symm hji)] at hjl
          exact Kd.keep (st.done j hj hjl) hb

/-- The region. -/
theorem region_steps {id : Nat} (hm : P.follows .mixedOrders = true) (hop : ∀ i o, ops[i]? = some o → goodOp D base N (fun g => (E g).isTrue) i o = true) (hD : ∀ i j, i < ops.size → j < ops.size → D i = D j → i = j) (hs : ∀ i, i < ops.size → Step P ops Q E D base N i)
    {a : Act} {w : World} (hsize : a.tmps.size = N) (hdef : a.defers = []) (hbase : ∀ t k, base t = some k → k.R (a.tmps.getD t undef) w)
    (hQ : ∀ a' w', a'.tmps.size = N → a'.defers = [] → Below w.heap.size w w' → (∀ j, j < ops.size → (E j).R (a'.tmps.getD (D j) undef) w') → Q .normal a' w') : (Code.region id ops true).wp P Q a w := by
  refine wp_region_any hm (wpAny_steps hop hD hs w (fun listed a' w' hl st => hQ a' w' st.size st.defers st.world fun j hj => st.done j hj (hl j hj)) ops.size _ a _ ?_ (by simp) ?_)
  · unfold cnt
    exact Nat.le_trans (List.countP_le_length) (by simp)
  · refine ⟨hsize, hdef, ⟨rfl, rfl, rfl, Nat.le_refl _, fun _ _ => rfl⟩, fun t k hk => Kd.keep (hbase t k hk) ⟨rfl, rfl, rfl, Nat.le_refl _, fun _ _ => rfl⟩, fun j hj hl => ?_⟩
    simp [hj] at hl
end
end Go.Proofs.Ytapcnehpechkpaa
