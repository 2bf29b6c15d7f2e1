/-
  FUNCTIONS WHOSE RESULT IS A CELL: a term's cell r that the function alone writes; what the slots hold lies elsewhere.
-/
import Derived.Test.YtapcnehpechkpaaOplB
import Derived.Test.YtapcnehpechkpaaThen
import Derived.Test.YtapcnehpechkpaaMakers
namespace Go.Proofs.Ytapcnehpechkpaa
set_option linter.unusedVariables false
set_option linter.unusedSimpArgs false
set_option maxRecDepth 100000
open Go.RowKit

/-- Known blocks from n on, other than G's. -/
abbrev Ns (n : Nat) (G : Option Nat) (w : World) (b : Nat) : Prop := n ≤ b ∧ b < w.heap.size ∧ G ≠ some b
theorem ArgsIn.ns {n k : Nat} {G : Option Nat} {w w' : World} {A : Option Addr} {F : Fo} (h : ArgsIn (Ns n G w) w A k F) (hb : Below w.heap.size w w') : ArgsIn (Ns n G w') w' A k F :=
  (h.keep fun b hb' => hb.block b hb'.2.1).mono fun b hb' => ⟨hb'.1, Nat.lt_of_lt_of_le hb'.2.1 hb.size, hb'.2.2⟩
theorem ArgsIn.low {n k : Nat} {G : Option Nat} {w : World} {A : Option Addr} {F : Fo} (h : ArgsIn (Ns n G w) w A k F) : ArgsB w w.heap.size A k F := h.mono fun b hb => hb.2.1
/-- The world is one in which the block r alone has been written. -/
structure Wrote (r : Nat) (w w' : World) : Prop where
  size : w'.heap.size = w.heap.size
  block : ∀ b, b ≠ r → w'.heap[b]? = w.heap[b]?
theorem ArgsIn.wrote {n k r : Nat} {w w' : World} {A : Option Addr} {F : Fo} (h : ArgsIn (Ns n (some r) w) w A k F) (hb : Wrote r w w') : ArgsIn (Ns n (some r) w') w' A k F :=
  (h.keep fun b hb' => hb.block b (fun e => hb'.2.2 (by rw [e]))).mono fun b hb' => ⟨hb'.1, by rw [hb.size]; exact hb'.2.1, hb'.2.2⟩
def nT (n : Nat) (G : Option Nat) (p : Pay) (l : Fo) : Pd where
  R := fun v w => ∃ A c, v = tv p A (Tm.len l) c ∧ ArgsIn (Ns n G w) w A (Tm.len l) l
  keep := by rintro v w w' ⟨A, c, e, h⟩ hb; exact ⟨A, c, e, h.ns hb⟩
def nR (n : Nat) (G : Option Nat) (F : Fo) : Pd where
  R := fun v w => ∃ A c, v = .slice A (Tm.len F) c ∧ ArgsIn (Ns n G w) w A (Tm.len F) F
  keep := by rintro v w w' ⟨A, c, e, h⟩ hb; exact ⟨A, c, e, h.ns hb⟩
def nP (n : Nat) (G : Option Nat) (p : Pay) (l : Fo) : Pd where
  R := fun v w => ∃ b o A c, v = .pointer (some ⟨b, o, none⟩) ∧ Ns n G w b ∧ NodeAt (Ns n G w) w b o p l A c
  keep := by
    rintro v w w' ⟨b, o, A, c, e, hlt, hn⟩ hb
    exact ⟨b, o, A, c, e, ⟨hlt.1, Nat.lt_of_lt_of_le hlt.2.1 hb.size, hlt.2.2⟩, hn.keep (hb.block _ hlt.2.1) (fun b hb' => hb.block b hb'.2.1) (fun b hb' => ⟨hb'.1, Nat.lt_of_lt_of_le hb'.2.1 hb.size, hb'.2.2⟩)⟩
def nQ (n : Nat) (G : Option Nat) (F : Fo) : Pd where
  R := fun v w => ∃ (a : Addr) (A : Option Addr) (c : Nat), v = .pointer (some a) ∧ Ns n G w a.block ∧ w.cell? a = some (.slice A (Tm.len F) c) ∧ ArgsIn (Ns n G w) w A (Tm.len F) F
  keep := by
    rintro v w w' ⟨a, A, c, e, hlt, hc, ha⟩ hb
    exact ⟨a, A, c, e, ⟨hlt.1, Nat.lt_of_lt_of_le hlt.2.1 hb.size, hlt.2.2⟩, (cell_of_block (hb.block _ hlt.2.1)).trans hc, ha.ns hb⟩
/-- The result's cell. -/
def rC (n r : Nat) (p : Pay) (l : Fo) : Pd where
  R := fun v w => v = .pointer (some ⟨r, 0, none⟩) ∧ r < w.heap.size ∧ SoftAt w r ∧ ∃ A c, TermAt w r p A (Tm.len l) c ∧ ArgsIn (Ns n (some r) w) w A (Tm.len l) l
  keep := by
    rintro v w w' ⟨e, hr, hs, A, c, ht, ha⟩ hb
    exact ⟨e, Nat.lt_of_lt_of_le hr hb.size, hs.same (hb.block _ hr), A, c, ht.same (hb.block _ hr), ha.ns hb⟩
/-- What is new lies from n on and is not G's. -/
def gP (n : Nat) (G : Option Nat) : Pd where
  R := fun _ w => n ≤ w.heap.size ∧ ∀ r, G = some r → r < w.heap.size
  keep := fun _ w w' h hb => ⟨Nat.le_trans h.1 hb.size, fun r e => Nat.lt_of_lt_of_le (h.2 r e) hb.size⟩
/-- Tuples with one term. -/
def nT2 (n : Nat) (G : Option Nat) (p : Pay) (l : Fo) (b : Bool) : Pd where
  R := fun v w => ∃ A c, v = .tuple #[tv p A (Tm.len l) c, .bool b] ∧ ArgsIn (Ns n G w) w A (Tm.len l) l
  keep := by rintro v w w' ⟨A, c, e, h⟩ hb; exact ⟨A, c, e, h.ns hb⟩
def nT3 (n : Nat) (G : Option Nat) (x : Value) (p : Pay) (l : Fo) (b : Bool) : Pd where
  R := fun v w => ∃ A c, v = .tuple #[x, tv p A (Tm.len l) c, .bool b] ∧ ArgsIn (Ns n G w) w A (Tm.len l) l
  keep := by rintro v w w' ⟨A, c, e, h⟩ hb; exact ⟨A, c, e, h.ns hb⟩
def nT4 (n : Nat) (G : Option Nat) (x y : Value) (p : Pay) (l : Fo) (b : Bool) : Pd where
  R := fun v w => ∃ A c, v = .tuple #[x, y, tv p A (Tm.len l) c, .bool b] ∧ ArgsIn (Ns n G w) w A (Tm.len l) l
  keep := by rintro v w w' ⟨A, c, e, h⟩ hb; exact ⟨A, c, e, h.ns hb⟩
def nL3 (n : Nat) (G : Option Nat) (F : Fo) (p : Pay) (l : Fo) (b : Bool) : Pd where
  R := fun v w => ∃ A c A' c', v = .tuple #[.slice A' (Tm.len F) c', tv p A (Tm.len l) c, .bool b] ∧ ArgsIn (Ns n G w) w A (Tm.len l) l ∧ ArgsIn (Ns n G w) w A' (Tm.len F) F
  keep := by rintro v w w' ⟨A, c, A', c', e, h, h'⟩ hb; exact ⟨A, c, A', c', e, h.ns hb, h'.ns hb⟩
/-- What a call returns. -/
def MkB (n : Nat) (p : Pay) (l : Fo) (b : Bool) (w : World) (e : Ending) (w' : World) : Prop :=
  ∃ A c, e = .returned (.tuple #[tv p A (Tm.len l) c, .bool b]) ∧ ArgsIn (fun b => n ≤ b ∧ b < w'.heap.size) w' A (Tm.len l) l ∧ Below w.heap.size w w'
def MkXB (n : Nat) (x : Value) (p : Pay) (l : Fo) (b : Bool) (w : World) (e : Ending) (w' : World) : Prop :=
  ∃ A c, e = .returned (.tuple #[x, tv p A (Tm.len l) c, .bool b]) ∧ ArgsIn (fun b => n ≤ b ∧ b < w'.heap.size) w' A (Tm.len l) l ∧ Below w.heap.size w w'
def MkXXB (n : Nat) (x y : Value) (p : Pay) (l : Fo) (b : Bool) (w : World) (e : Ending) (w' : World) : Prop :=
  ∃ A c, e = .returned (.tuple #[x, y, tv p A (Tm.len l) c, .bool b]) ∧ ArgsIn (fun b => n ≤ b ∧ b < w'.heap.size) w' A (Tm.len l) l ∧ Below w.heap.size w w'
def MkLB (n : Nat) (F : Fo) (p : Pay) (l : Fo) (b : Bool) (w : World) (e : Ending) (w' : World) : Prop :=
  ∃ A c A' c', e = .returned (.tuple #[.slice A' (Tm.len F) c', tv p A (Tm.len l) c, .bool b]) ∧ ArgsIn (fun b => n ≤ b ∧ b < w'.heap.size) w' A (Tm.len l) l ∧ ArgsIn (fun b => n ≤ b ∧ b < w'.heap.size) w' A' (Tm.len F) F ∧ Below w.heap.size w w'

/-! ### what stays when the result is written -/
def Away (r : Nat) (k : Kd) : Prop := ∀ v w w', Wrote r w w' → k.R v w → k.R v w'
theorem away_val (r : Nat) (v : Value) : Away r (.val v) := fun _ _ _ _ h => h
theorem away_nT (n r : Nat) (p : Pay) (l : Fo) : Away r (.sat (nT n (some r) p l)) := by rintro v w w' hw ⟨A, c, e, h⟩; exact ⟨A, c, e, h.wrote hw⟩
theorem away_nR (n r : Nat) (F : Fo) : Away r (.sat (nR n (some r) F)) := by rintro v w w' hw ⟨A, c, e, h⟩; exact ⟨A, c, e, h.wrote hw⟩
theorem away_nP (n r : Nat) (p : Pay) (l : Fo) : Away r (.sat (nP n (some r) p l)) := by
  rintro v w w' hw ⟨b, o, A, c, e, hlt, hn⟩
  have hne : ∀ b, Ns n (some r) w b → w'.heap[b]? = w.heap[b]? := fun b hb' => hw.block b (fun e => hb'.2.2 (by rw [e]))
  exact ⟨b, o, A, c, e, ⟨hlt.1, by rw [hw.size]; exact hlt.2.1, hlt.2.2⟩, hn.keep (hne b hlt) hne (fun b hb' => ⟨hb'.1, by rw [hw.size]; exact hb'.2.1, hb'.2.2⟩)⟩
theorem away_nT2 (n r : Nat) (p : Pay) (l : Fo) (b : Bool) : Away r (.sat (nT2 n (some r) p l b)) := by rintro v w w' hw ⟨A, c, e, h⟩; exact ⟨A, c, e, h.wrote hw⟩
theorem away_nT3 (n r : Nat) (x : Value) (p : Pay) (l : Fo) (b : Bool) : Away r (.sat (nT3 n (some r) x p l b)) := by rintro v w w' hw ⟨A, c, e, h⟩; exact ⟨A, c, e, h.wrote hw⟩
theorem away_nT4 (n r : Nat) (x y : Value) (p : Pay) (l : Fo) (b : Bool) : Away r (.sat (nT4 n (some r) x y p l b)) := by rintro v w w' hw ⟨A, c, e, h⟩; exact ⟨A, c, e, h.wrote hw⟩
theorem away_gP (n r : Nat) (G : Option Nat) : Away r (.sat (gP n G)) := by
  rintro v w w' hw ⟨h1, h2⟩
  exact ⟨by rw [hw.size]; exact h1, fun r e => by rw [hw.size]; exact h2 r e⟩
/-- The slots of env' are among those of env, and stay. -/
def Stays (r : Nat) (env env' : Env) : Prop := ∀ t k, look env' t = some k → look env t = some k ∧ Away r k
theorem stays_nil (r : Nat) (env : Env) : Stays r env [] := fun t k h => by cases h
theorem stays_cons {r : Nat} {env env' : Env} (d : Nat) {k0 : Kd} (h0 : look env d = some k0) (ha : Away r k0) (h : Stays r env env') : Stays r env ((d, k0) :: env') := by
  intro t k hk
  rw [look_cons] at hk
  by_cases e : d = t
  · subst e
    rw [if_pos (by simp)] at hk
    cases hk
    exact ⟨h0, ha⟩
  · rw [if_neg (by simpa using e)] at hk
    exact h t k hk
theorem run_store_at {a : Act} {x y : Operand} {ty : TypeId} {pos : String} {after : Array Edge} {guard : Option (Nat × Bool)} (w : World) (g : Nat) (p : Pay) (A : Option Addr) (n c : Nat) (hx : a.eval x = .pointer (some ⟨g, 0, none⟩)) (hy : a.eval y = tv p A n c) (hf : Four w g 0) (hs : SoftAt w g) :
    (execOp a.eval ⟨none, .store 24 x y, ty, pos, after, guard⟩).run Try.prog w = .ok .skip (set4 w g 0 p A n c) := by
  have f0 := hs.s0
  have f1 := hs.s1
  have f2 := hs.s2
  have f3 := hs.s3
  obtain ⟨h0, h1, h2, h3⟩ := hf
  obtain ⟨v0, y0⟩ := Option.isSome_iff_exists.1 h0
  obtain ⟨v1, y1⟩ := Option.isSome_iff_exists.1 h1
  obtain ⟨v2, y2⟩ := Option.isSome_iff_exists.1 h2
  obtain ⟨v3, y3⟩ := Option.isSome_iff_exists.1 h3
  clear h0 h1 h2 h3 hs
  unfold execOp
  simp only [hx, hy]
  go_simp
section
variable {ops : Array Oper} {Q : Exit → Act → World → Prop} {N : Nat} {env : Env} {w0 w : World} {a : Act}
theorem env_store {i x y n r : Nat} {p0 p : Pay} {l0 l : Fo} {rest : List Nat} (env' : Env) (hop : (ops[i]?).map (fun o => (o.op, o.dst, o.guard)) = some (.store 24 (.tmp x) (.tmp y), none, none))
    (hx : look env x = some (.sat (rC n r p0 l0))) (hy : look env y = some (.sat (nT n (some r) p l))) (hr : w0.heap.size ≤ r) (hs : Stays r env env') (st : Hold N env w0 a w)
    (h : ∀ a' w', Hold N ((x, .sat (rC n r p l)) :: env') w0 a' w' → wpOps Try.prog ops Q rest a' w') : wpOps Try.prog ops Q (i :: rest) a w := by
  obtain ⟨ex, hrw, hsoft, A0, c0, ht, _⟩ := st.slots _ _ hx
  obtain ⟨A, c, ey, ha⟩ := st.slots _ _ hy
  cases ho : ops[i]? with
  | none => rw [ho] at hop; cases hop
  | some o =>
  rw [ho] at hop
  have hop := Option.some.inj hop
  obtain ⟨dst, op, ty, pos, after, guard⟩ := o
  simp only [Prod.mk.injEq] at hop
  obtain ⟨e1, e2, e3⟩ := hop
  subst e1 e2 e3
  have hrun := run_store_at (a := a) (x := .tmp x) (y := .tmp y) (ty := ty) (pos := pos) (after := after) (guard := none) w r p A (Tm.len l) c ex ey ht.four hsoft
  have sd := stored w r p p0 A A0 (Tm.len l) c (Tm.len l0) c0 ht hsoft
  have hw : Wrote r w (set4 w r 0 p A (Tm.len l) c) := ⟨sd.size, fun b hb => sd.block b hb⟩
  simp only [wpOps, ho, wanted_free (o := ⟨none, .store 24 (.tmp x) (.tmp y), ty, pos, after, none⟩) rfl, if_true]
  refine .inl ?_
  unfold Oper.wp
  rw [hrun]
  refine h _ _ ⟨st.size, st.defers, sd.below _ _ st.world hr, fun t k hk => ?_⟩
  rw [look_cons] at hk
  by_cases e : x = t
  · subst e
    rw [if_pos (by simp)] at hk
    cases hk
    exact ⟨ex, by rw [sd.size]; exact hrw, sd.soft, A, c, sd.term, ha.wrote hw⟩
  · rw [if_neg (by simpa using e)] at hk
    obtain ⟨h1, h2⟩ := hs t k hk
    exact h2 _ _ _ hw (st.slots t k h1)
/-! ### the result's cell is made -/
def Turns (r : Nat) (k k' : Kd) : Prop := ∀ v w o, w.heap.size = r → k.R v w → k'.R v (w.alloc o)
theorem turns_val (r : Nat) (v : Value) : Turns r (.val v) (.val v) := fun _ _ _ _ h => h
theorem up_ns {r b : Nat} {w : World} (o : Obj) (hr : w.heap.size = r) (hb : b < w.heap.size) : Ns 0 (some r) (w.alloc o) b := ⟨Nat.zero_le _, by rw [World.size_alloc]; omega, fun e => by injection e with e; omega⟩
theorem turns_term (r : Nat) (p : Pay) (l : Fo) : Turns r (.term p l) (.sat (nT 0 (some r) p l)) := by
  rintro v w o hr ⟨A, c, e, h⟩
  exact ⟨A, c, e, (h.keep fun b hb => Below.heap_alloc w o b hb).mono fun b hb => up_ns o hr hb⟩
theorem turns_row (r : Nat) (F : Fo) : Turns r (.row F) (.sat (nR 0 (some r) F)) := by
  rintro v w o hr ⟨A, c, e, h⟩
  exact ⟨A, c, e, (h.keep fun b hb => Below.heap_alloc w o b hb).mono fun b hb => up_ns o hr hb⟩
theorem turns_ptr (r : Nat) (p : Pay) (l : Fo) : Turns r (.ptrT p l) (.sat (nP 0 (some r) p l)) := by
  rintro v w o hr ⟨b, off, A, c, e, hlt, hn⟩
  exact ⟨b, off, A, c, e, up_ns o hr hlt, hn.keep (Below.heap_alloc w o b hlt) (fun b hb => Below.heap_alloc w o b hb) (fun b hb => up_ns o hr hb)⟩
def Goes (r : Nat) (env env' : Env) : Prop := ∀ t k', look env' t = some k' → ∃ k, look env t = some k ∧ Turns r k k'
theorem goes_nil (r : Nat) (env : Env) : Goes r env [] := fun t k h => by cases h
theorem goes_cons {r : Nat} {env env' : Env} (d : Nat) {k0 k1 : Kd} (h0 : look env d = some k0) (ha : Turns r k0 k1) (h : Goes r env env') : Goes r env ((d, k1) :: env') := by
  intro t k hk
  rw [look_cons] at hk
  by_cases e : d = t
  · subst e
    rw [if_pos (by simp)] at hk
    cases hk
    exact ⟨k0, h0, ha⟩
  · rw [if_neg (by simpa using e)] at hk
    exact h t k hk
theorem env_res {i d n : Nat} {rest : List Nat} (env' : Nat → Env) (hop : (ops[i]?).map (fun o => (o.op, o.dst, o.guard)) = some (.alloc 24, some d, none)) (hd : d < N) (hd9 : d ≠ 990) (hn : n ≤ w0.heap.size) (hs : ∀ r, Goes r env (env' r)) (st : Hold N env w0 a w)
    (h : ∀ r a' w', w0.heap.size ≤ r → Hold N ((d, .sat (rC n r zp .nil)) :: (990, .sat (gP n (some r))) :: (env' r).filter (fun e => e.1 != d)) w0 a' w' → wpOps Try.prog ops Q rest a' w') : wpOps Try.prog ops Q (i :: rest) a w := by
  cases ho : ops[i]? with
  | none => rw [ho] at hop; cases hop
  | some o =>
  rw [ho] at hop
  have hop := Option.some.inj hop
  obtain ⟨dst, op, ty, pos, after, guard⟩ := o
  simp only [Prod.mk.injEq] at hop
  obtain ⟨e1, e2, e3⟩ := hop
  subst e1 e2 e3
  simp only [wpOps, ho, wanted_free (o := ⟨some d, .alloc 24, ty, pos, after, none⟩) rfl, if_true]
  refine .inl (wp_alloc_op ?_)
  have hb : Below w.heap.size w (w.alloc (.cells #[.int .i64 0, .int .i64 0, .string ⟨#[]⟩, .slice none 0 0] 24)) := (Below.refl _ _).alloc (Nat.le_refl _) _
  have hr := ResAt.new w 24 w.heap.size rfl
  refine h w.heap.size _ _ st.world.size ⟨put_size.trans st.size, st.defers, st.world.trans (hb.mono st.world.size), fun t k hk => ?_⟩
  have hsz := st.world.size
  rw [look_cons] at hk
  by_cases e : d = t
  · subst e
    rw [if_pos (by simp)] at hk
    cases hk
    rw [put_self (by rw [st.size]; exact hd)]
    exact ⟨rfl, by simp, hr.s, none, 0, hr.t, ArgsIn.nil _ _ _⟩
  · rw [if_neg (by simpa using e)] at hk
    rw [put_other (fun e' => e e'.symm)]
    rw [look_cons] at hk
    by_cases e9 : 990 = t
    · subst e9
      rw [if_pos (by simp)] at hk
      cases hk
      exact ⟨by simp; omega, fun r e => by injection e with e; subst e; simp⟩
    · rw [if_neg (by simpa using e9)] at hk
      have hk2 : look (env' w.heap.size) t = some k := by
        unfold look at hk ⊢
        obtain ⟨e0, he0, rfl⟩ := Option.map_eq_some_iff.1 hk
        rw [List.find?_filter] at he0
        refine Option.map_eq_some_iff.2 ⟨e0, ?_, rfl⟩
        rw [← he0]
        refine congrArg (fun f => List.find? f (env' w.heap.size)) (funext fun x => ?_)
        by_cases hx : x.1 = t
        · subst hx
          have : (x.1 != d) = true := by simpa using fun e' => e e'.symm
          simp [this]
        · simp [hx]
      obtain ⟨k0, h0, ht⟩ := hs w.heap.size t k hk2
      exact ht _ _ _ rfl (st.slots t k0 h0)
end
end Go.Proofs.Ytapcnehpechkpaa
