/-
  A region that draws its order, reads memory of before and makes two cells, which it writes at the end.
-/
import Derived.Test.YtapcnehpechkpaaRes2
import Derived.Test.YtapcnehpechkpaaInv
namespace Go.Proofs.Ytapcnehpechkpaa
set_option linter.unusedVariables false
set_option linter.unusedSimpArgs false
set_option maxRecDepth 100000
open Go.RowKit
/-- The world comes behind sw. -/
def aft (sw : World) : Pd where
  R := fun _ w => Below sw.heap.size sw w
  keep := fun _ w w' h hb => h.trans (hb.mono h.size)
/-- A cell that is new since s, not yet written. -/
def zF (s : Nat) : Pd where
  R := fun v w => ∃ r, v = .pointer (some ⟨r, 0, none⟩) ∧ s ≤ r ∧ r < w.heap.size ∧ SoftAt w r ∧ ∃ A c, TermAt w r zp A 0 c
  keep := by
    rintro v w w' ⟨r, e, hs, hr, hf, A, c, ht⟩ hb
    exact ⟨r, e, hs, Nat.lt_of_lt_of_le hr hb.size, hf.same (hb.block _ hr), A, c, ht.same (hb.block _ hr)⟩
section
variable {ops : Array Oper} {Q : Exit → Act → World → Prop} {E : Nat → Kd} {D : Nat → Nat} {base : Nat → Option Kd} {N : Nat}
theorem step_vfield3 {i b o : Nat} {x : Operand} (hop : (ops[i]?).map (·.op) = some (.fieldAddr 24 x 3)) (hx : Opd ops E D base N i x (.val (.pointer (some ⟨b, o, none⟩)))) (hE : E i = .val (.pointer (some ⟨b, o + 3, none⟩))) : Step Try.prog ops Q E D base N i :=
  step_still hop hE fun a w h dst ty' pos after guard => by
    have e : a.eval x = .pointer (some ⟨b, o, none⟩) := hx a w h
    refine ⟨.pointer (some ⟨b, o + 3, none⟩), ?_, rfl⟩
    unfold execOp
    simp only [e]
    go_simp
theorem step_vload_row {i n c : Nat} {x g : Operand} {sw : World} {ad : Addr} {A : Option Addr} (hlt : ad.block < sw.heap.size) (hc : sw.cell? ad = some (.slice A n c)) (hop : (ops[i]?).map (·.op) = some (.load 22 x)) (hx : Opd ops E D base N i x (.val (.pointer (some ad)))) (hg : Opd ops E D base N i g (.sat (aft sw))) (hE : E i = .val (.slice A n c)) : Step Try.prog ops Q E D base N i :=
  step_still hop hE fun a w h dst ty' pos after guard => by
    have e : a.eval x = .pointer (some ad) := hx a w h
    have hb : Below sw.heap.size sw w := hg a w h
    have hc' : w.cell? ad = some (.slice A n c) := (cell_of_block (hb.block _ hlt)).trans hc
    refine ⟨.slice A n c, ?_, rfl⟩
    unfold execOp
    simp only [e]
    go_simp
theorem step_vindex {i b o n c k : Nat} {x y : Operand} (hk : k < n) (hop : (ops[i]?).map (·.op) = some (.indexAddr 22 x y)) (hx : Opd ops E D base N i x (.val (.slice (some ⟨b, o, none⟩) n c))) (hy : Opd ops E D base N i y (.val (.int .i64 (k : Int)))) (hE : E i = .val (.pointer (some ⟨b, o + k * 4, none⟩))) : Step Try.prog ops Q E D base N i :=
  step_still hop hE fun a w h dst ty' pos after guard => by
    have e : a.eval x = .slice (some ⟨b, o, none⟩) n c := hx a w h
    have e' : a.eval y = .int .i64 (k : Int) := hy a w h
    refine ⟨.pointer (some ⟨b, o + k * 4, none⟩), ?_, rfl⟩
    unfold execOp
    simp only [e, e']
    go_simp
theorem step_vload {i b o n c : Nat} {x g : Operand} {sw : World} {p : Pay} {A : Option Addr} (hlt : b < sw.heap.size) (h0 : sw.cell? ⟨b, o, none⟩ = some (.int .i64 p.1)) (h1 : sw.cell? ⟨b, o + 1, none⟩ = some (.int .i64 p.2.1)) (h2 : sw.cell? ⟨b, o + 2, none⟩ = some (.string p.2.2)) (h3 : sw.cell? ⟨b, o + 3, none⟩ = some (.slice A n c)) (hop : (ops[i]?).map (·.op) = some (.load 24 x)) (hx : Opd ops E D base N i x (.val (.pointer (some ⟨b, o, none⟩)))) (hg : Opd ops E D base N i g (.sat (aft sw))) (hE : E i = .val (tv p A n c)) : Step Try.prog ops Q E D base N i :=
  step_still hop hE fun a w h dst ty' pos after guard => by
    have e : a.eval x = .pointer (some ⟨b, o, none⟩) := hx a w h
    have hb : Below sw.heap.size sw w := hg a w h
    replace h0 := (cell_of_block (p := ⟨b, o, none⟩) (hb.block _ hlt)).trans h0
    replace h1 := (cell_of_block (p := ⟨b, o + 1, none⟩) (hb.block _ hlt)).trans h1
    replace h2 := (cell_of_block (p := ⟨b, o + 2, none⟩) (hb.block _ hlt)).trans h2
    replace h3 := (cell_of_block (p := ⟨b, o + 3, none⟩) (hb.block _ hlt)).trans h3
    refine ⟨tv p A n c, ?_, rfl⟩
    unfold execOp
    simp only [e]
    go_simp
end
section
variable {ops : Array Oper} {Q : Exit → Act → World → Prop} {N : Nat} {env : Env} {w0 w : World} {a : Act}
theorem wpOps_store {i x y n c n0 c0 r : Nat} {p p0 : Pay} {A A0 : Option Addr} {rest : List Nat} (hop : (ops[i]?).map (fun o => (o.op, o.dst, o.guard)) = some (.store 24 (.tmp x) (.tmp y), none, none)) (ex : a.tmps.getD x undef = .pointer (some ⟨r, 0, none⟩)) (ey : a.tmps.getD y undef = tv p A n c) (ht : TermAt w r p0 A0 n0 c0) (hsoft : SoftAt w r)
    (h : wpOps Try.prog ops Q rest a (set4 w r 0 p A n c)) : wpOps Try.prog ops Q (i :: rest) a w := by
  cases ho : ops[i]? with
  | none => rw [ho] at hop; cases hop
  | some o =>
  rw [ho] at hop
  have hop := Option.some.inj hop
  obtain ⟨dst, op, ty, pos, after, guard⟩ := o
  simp only [Prod.mk.injEq] at hop
  obtain ⟨e1, e2, e3⟩ := hop
  subst e1 e2 e3
  have hrun := run_store_at (a := a) (x := .tmp x) (y := .tmp y) (ty := ty) (pos := pos) (after := after) (guard := none) w r p A n c ex ey ht.four hsoft
  simp only [wpOps, ho, wanted_free (o := ⟨none, .store 24 (.tmp x) (.tmp y), ty, pos, after, none⟩) rfl, if_true]
  refine .inl ?_
  unfold Oper.wp
  rw [hrun]
  exact h
/-- What one cell holds: a zero term, or what has been written. -/
def wF (s : Nat) (p : Pay) (A : Option Addr) (n c : Nat) : Pd where
  R := fun v w => ∃ r, v = .pointer (some ⟨r, 0, none⟩) ∧ s ≤ r ∧ r < w.heap.size ∧ SoftAt w r ∧ TermAt w r p A n c
  keep := by
    rintro v w w' ⟨r, e, hs, hr, hf, ht⟩ hb
    exact ⟨r, e, hs, Nat.lt_of_lt_of_le hr hb.size, hf.same (hb.block _ hr), ht.same (hb.block _ hr)⟩
/-- Not disturbed when a cell from s on is written. -/
def Up (s : Nat) (k : Kd) : Prop := ∀ v w w' x p A n c, s ≤ x → Stored w w' x p A n c → k.R v w → k.R v w'
theorem up_val (s : Nat) (v : Value) : Up s (.val v) := fun _ _ _ _ _ _ _ _ _ _ h => h
theorem up_any (s : Nat) : Up s .any := fun _ _ _ _ _ _ _ _ _ _ _ => trivial
theorem up_gP (s n : Nat) (G : Option Nat) : Up s (.sat (gP n G)) := fun v w w' x p A m c hx sd ⟨h1, h2⟩ => ⟨by rw [sd.size]; exact h1, fun r e => by rw [sd.size]; exact h2 r e⟩
theorem up_aft (sw : World) : Up sw.heap.size (.sat (aft sw)) := fun v w w' x p A m c hx sd h => sd.below _ _ h hx
theorem up_rC {s n r : Nat} (hr : r < s) : Up s (.sat (rC n r zp .nil)) := fun v w w' x p A m c hx sd ⟨e, h, f, A', c', t, a⟩ => ⟨e, by rw [sd.size]; exact h, f.same (sd.block r (by omega)), A', c', t.same (sd.block r (by omega)), ArgsIn.nil _ _ _⟩
def Ups (s : Nat) (env : Env) : Prop := ∀ t k, look env t = some k → Up s k
theorem ups_nil (s : Nat) : Ups s [] := fun t k h => by cases h
theorem ups_cons {s : Nat} {k0 : Kd} {env : Env} (t0 : Nat) (h : Up s k0) (h' : Ups s env) : Ups s ((t0, k0) :: env) := fun t k hk => by
  rw [look_cons] at hk
  by_cases e : t0 = t
  · subst e
    rw [if_pos (by simp)] at hk
    cases hk
    exact h
  · rw [if_neg (by simpa using e)] at hk
    exact h' t k hk
def UpL (s : Nat) (Es : List Kd) (i2 : Nat) : Prop := ∀ j, j ≠ i2 → Up s ((Es[j]?).getD .any)
structure PairI (E : Nat → Kd) (D : Nat → Nat) (env : Env) (N m i1 i2 s : Nat) (w0 : World) (p : Pay) (A : Option Addr) (n c : Nat) (L : Nat → Bool) (a : Act) (w : World) : Prop where
  size : a.tmps.size = N
  defers : a.defers = []
  world : Below w0.heap.size w0 w
  base : ∀ t k, look env t = some k → k.R (a.tmps.getD t undef) w
  done : ∀ j, j < m → L j = true → (E j).R (a.tmps.getD (D j) undef) w
  one : L i1 = true → if L s = true then (wF w0.heap.size p A n c).R (a.tmps.getD (D i1) undef) w else (zF w0.heap.size).R (a.tmps.getD (D i1) undef) w
  ord : L s = true → L i1 = true
  apart : L i1 = true → L i2 = true → a.tmps.getD (D i1) undef ≠ a.tmps.getD (D i2) undef
def pairGood (ops : Array Oper) (env : Env) (D : Nat → Nat) (N m s : Nat) : Bool := (List.range m).all fun i => i == s || match ops[i]? with
  | some o => o.guard.isNone && o.dst == some (D i) && decide (D i < N) && (look env (D i)).isNone
  | none => false
def onB (ops : Array Oper) (s i : Nat) : Bool := match ops[s]? with
  | some o => o.after.any fun e => Region.binds .any e && e.on == i
  | none => false
theorem env_pair {id m n i1 i2 s jy x y k c : Nat} {p : Pay} {A : Option Addr} (Ds : List Nat) (Es : List Kd) (hn : ops.size = n) (hmn : m ≤ n) (h1 : i1 < m) (h2 : i2 < m) (hsm : s < m) (hjm : jy < m) (h12 : i1 ≠ i2) (h1s : i1 ≠ s) (h2s : i2 ≠ s) (hl : lateB ops m [] = true) (hed : edgesB ops = true)
    (hop1 : (ops[i1]?).map (fun o => o.op) = some (.alloc 24)) (hop2 : (ops[i2]?).map (fun o => o.op) = some (.alloc 24))
    (hops : (ops[s]?).map (fun o => (o.op, o.dst, o.guard)) = some (.store 24 (.tmp x) (.tmp y), none, none)) (hon1 : onB ops s i1 = true) (hony : onB ops s jy = true) (hd1 : (Ds[i1]?).getD (1000 + i1) = x) (hdy : (Ds[jy]?).getD (1000 + jy) = y) (hEy : (Es[jy]?).getD .any = .val (tv p A k c))
    (hgood : pairGood ops env (fun i => (Ds[i]?).getD (1000 + i)) N m s = true) (hm : Es.length = m)
    (hD : ∀ i, i < m → ∀ j, j < m → (Ds[i]?).getD (1000 + i) = (Ds[j]?).getD (1000 + j) → i = j)
    (hs : ∀ i, i < m → i ≠ i1 → i ≠ i2 → i ≠ s → RStep (strip ops) Q (fun i => (Es[i]?).getD .any) (fun i => (Ds[i]?).getD (1000 + i)) (look env) N i)
    (hE1 : (Es[i1]?).getD .any = .any) (hE2 : (Es[i2]?).getD .any = .sat (zF w0.heap.size)) (hEs : (Es[s]?).getD .any = .any)
    (hue : Ups w0.heap.size env) (hul : UpL w0.heap.size Es i2)
    (st : Hold N env w0 a w)
    (hQ : ∀ a' w', a'.tmps.getD ((Ds[i1]?).getD (1000 + i1)) undef ≠ a'.tmps.getD ((Ds[i2]?).getD (1000 + i2)) undef → (wF w0.heap.size p A k c).R (a'.tmps.getD ((Ds[i1]?).getD (1000 + i1)) undef) w' → Hold N (Ds.zip Es ++ env) w0 a' w' → wpOps Try.prog ops Q (List.range' m (n - m)) a' w') : (Code.region id ops true).wp Try.prog Q a w := by
  have hg : ∀ i, i < m → i ≠ s → ∃ o, ops[i]? = some o ∧ o.guard = none ∧ o.dst = some ((Ds[i]?).getD (1000 + i)) ∧ (Ds[i]?).getD (1000 + i) < N ∧ look env ((Ds[i]?).getD (1000 + i)) = none := by
    intro i hi his
    have h1 := List.all_eq_true.1 hgood i (List.mem_range.2 hi)
    simp only [Bool.or_eq_true, beq_iff_eq] at h1
    rcases h1 with h1 | h1
    · exact absurd h1 his
    cases ho : ops[i]? with
    | none => rw [ho] at h1; cases h1
    | some o =>
      rw [ho] at h1
      simp only [Bool.and_eq_true, beq_iff_eq, decide_eq_true_eq, Option.isNone_iff_eq_none] at h1
      obtain ⟨⟨⟨h1, h2⟩, h3⟩, h4⟩ := h1
      exact ⟨o, rfl, h1, h2, h3, h4⟩
  have h12' : (Ds[i1]?).getD (1000 + i1) ≠ (Ds[i2]?).getD (1000 + i2) := fun e => h12 (hD i1 h1 i2 h2 e)
  -- what each cell's slot holds lies below the heap's end
  have ptr1 : ∀ {L : Nat → Bool} {a : Act} {w : World}, PairI (fun i => (Es[i]?).getD .any) (fun i => (Ds[i]?).getD (1000 + i)) env N m i1 i2 s w0 p A k c L a w → L i1 = true → ∃ r, a.tmps.getD ((Ds[i1]?).getD (1000 + i1)) undef = .pointer (some ⟨r, 0, none⟩) ∧ r < w.heap.size := by
    intro L a w hI h
    have := hI.one h
    split at this
    · obtain ⟨r, e, _, hr, _⟩ := this
      exact ⟨r, e, hr⟩
    · obtain ⟨r, e, _, hr, _⟩ := this
      exact ⟨r, e, hr⟩
  have ptr2 : ∀ {L : Nat → Bool} {a : Act} {w : World}, PairI (fun i => (Es[i]?).getD .any) (fun i => (Ds[i]?).getD (1000 + i)) env N m i1 i2 s w0 p A k c L a w → L i2 = true → (zF w0.heap.size).R (a.tmps.getD ((Ds[i2]?).getD (1000 + i2)) undef) w := by
    intro L a w hI h
    have := hI.done i2 h2 h
    simp only [hE2] at this
    exact this
  have fresh : ∀ {w : World} {v : Value} {r : Nat}, v = .pointer (some ⟨r, 0, none⟩) → r < w.heap.size → v ≠ .pointer (some ⟨w.heap.size, 0, none⟩) := by
    intro w v r e hr e'
    rw [e] at e'
    injection e' with e'
    injection e' with e'
    injection e' with e'
    omega
  refine region_inv (m := m) hn hmn hl hed (PairI (fun i => (Es[i]?).getD .any) (fun i => (Ds[i]?).getD (1000 + i)) env N m i1 i2 s w0 p A k c) ?_ ?_ ?_
  · exact ⟨st.size, st.defers, st.world.trans ((drawn_below w).mono st.world.size), fun t k hk => Kd.keep (st.slots t k hk) (drawn_below w), fun j _ h => (by cases h), fun h => (by cases h), fun h => (by cases h), fun h => (by cases h)⟩
  · intro L a w i o him ho hLi hdeps hI
    by_cases his : i = s
    · subst his
      rw [ho] at hops
      have hops := Option.some.inj hops
      have on : ∀ {j}, onB ops i j = true → L j = true := by
        intro j h
        unfold onB at h
        rw [ho] at h
        obtain ⟨e, he, h3⟩ := Array.any_eq_true'.1 h
        simp only [Bool.and_eq_true, beq_iff_eq] at h3
        rw [← h3.2]
        exact hdeps e he h3.1
      have hL1 := on hon1
      have hone := hI.one hL1
      rw [if_neg (by rw [hLi]; decide)] at hone
      obtain ⟨r, er, hsr, hrw, hsoft, A0, c0, ht⟩ := hone
      have ey := hI.done jy hjm (on hony)
      simp only [hEy] at ey
      have ey : a.tmps.getD ((Ds[jy]?).getD (1000 + jy)) undef = tv p A k c := ey
      have ex : a.tmps.getD x undef = .pointer (some ⟨r, 0, none⟩) := by rw [← hd1]; exact er
      rw [hdy] at ey
      obtain ⟨dst, op, ty, pos, after, guard⟩ := o
      simp only [Prod.mk.injEq] at hops
      obtain ⟨e1, e2, e3⟩ := hops
      subst e1 e2 e3
      have hrun := run_store_at (a := a) (x := .tmp x) (y := .tmp y) (ty := ty) (pos := pos) (after := after) (guard := none) w r p A k c ex ey ht.four hsoft
      have sd := stored w r p zp A A0 k c 0 c0 ht hsoft
      refine wpOp_one ho rfl ?_
      unfold Oper.wp
      rw [hrun]
      refine ⟨hI.size, hI.defers, sd.below _ _ hI.world hsr, fun t k hk => hue t k hk _ _ _ _ _ _ _ _ hsr sd (hI.base t k hk), fun j hj hLj => ?_, fun _ => ?_, fun _ => ?_, fun ha hb => ?_⟩
      · by_cases hji : j = i
        · subst hji
          show ((Es[j]?).getD .any).R _ _
          rw [hEs]
          trivial
        rw [if_neg hji] at hLj
        by_cases hj2 : j = i2
        · subst hj2
          obtain ⟨r2, er2, hs2, hr2, hf2, A2, c2, ht2⟩ := ptr2 hI hLj
          have hne : r2 ≠ r := fun e => hI.apart hL1 hLj (by rw [er, ← e]; exact er2.symm)
          show ((Es[j]?).getD .any).R _ _
          rw [hE2]
          exact ⟨r2, er2, hs2, by rw [sd.size]; exact hr2, hf2.same (sd.block r2 hne), A2, c2, ht2.same (sd.block r2 hne)⟩
        · exact hul j hj2 _ _ _ _ _ _ _ _ hsr sd (hI.done j hj hLj)
      · rw [if_pos (by simp)]
        exact ⟨r, er, hsr, by rw [sd.size]; exact hrw, sd.soft, sd.term⟩
      · rw [if_neg h1s]
        exact hL1
      · rw [if_neg h1s] at ha
        rw [if_neg h2s] at hb
        exact hI.apart ha hb
    obtain ⟨o', ho', hgu, hdst, hDN, hbase⟩ := hg i him his
    rw [ho] at ho'
    cases ho'
    have hDa : (Ds[i]?).getD (1000 + i) < a.tmps.size := by rw [hI.size]; exact hDN
    have hso : (strip ops)[i]? = some (stripO o) := by rw [strip_at, ho]; rfl
    have hLs : (if s = i then true else L s) = L s := if_neg (Ne.symm his)
    have hr := ResAt.new w 24 w.heap.size rfl
    have hbA : Below w.heap.size w (w.alloc (.cells #[.int .i64 0, .int .i64 0, .string ⟨#[]⟩, .slice none 0 0] 24)) := (Below.refl _ _).alloc (Nat.le_refl _) _
    by_cases hi1 : i = i1
    · subst hi1
      have hLsf : L s = false := by
        cases h : L s with
        | false => rfl
        | true => rw [hI.ord h] at hLi; cases hLi
      rw [ho] at hop1
      have hop := Option.some.inj hop1
      refine wpOp_one ho hgu ?_
      obtain ⟨dst, op, ty, pos, after, guard⟩ := o
      have e1 : op = _ := hop
      have e2 : dst = _ := hdst
      subst e1 e2
      refine wp_alloc_op ?_
      refine ⟨put_size.trans hI.size, hI.defers, hI.world.trans (hbA.mono hI.world.size), fun t k hk => ?_, fun j hj hLj => ?_, fun _ => ?_, fun _ => ?_, fun _ hb' => ?_⟩
      · rw [put_other (fun e => by subst e; rw [hk] at hbase; cases hbase)]
        exact Kd.keep (hI.base t k hk) hbA
      · by_cases hji : j = i
        · subst hji
          show ((Es[j]?).getD .any).R _ _
          rw [hE1]
          trivial
        · rw [if_neg hji] at hLj
          rw [put_other (fun e => hji (hD j hj i him e))]
          exact Kd.keep (hI.done j hj hLj) hbA
      · show if (if s = i then true else L s) = true then _ else _
        rw [hLs, hLsf, if_neg (by decide), put_self hDa]
        exact ⟨w.heap.size, rfl, hI.world.size, by simp, hr.s, none, 0, hr.t⟩
      · exact if_pos rfl
      · rw [if_neg (Ne.symm h12)] at hb'
        rw [put_self hDa, put_other (Ne.symm h12')]
        obtain ⟨r2, er2, _, hr2, _⟩ := ptr2 hI hb'
        exact Ne.symm (fresh er2 hr2)
    by_cases hi2 : i = i2
    · subst hi2
      rw [ho] at hop2
      have hop := Option.some.inj hop2
      refine wpOp_one ho hgu ?_
      obtain ⟨dst, op, ty, pos, after, guard⟩ := o
      have e1 : op = _ := hop
      have e2 : dst = _ := hdst
      subst e1 e2
      refine wp_alloc_op ?_
      refine ⟨put_size.trans hI.size, hI.defers, hI.world.trans (hbA.mono hI.world.size), fun t k hk => ?_, fun j hj hLj => ?_, fun h => ?_, fun h => ?_, fun ha _ => ?_⟩
      · rw [put_other (fun e => by subst e; rw [hk] at hbase; cases hbase)]
        exact Kd.keep (hI.base t k hk) hbA
      · by_cases hji : j = i
        · subst hji
          rw [put_self hDa]
          show ((Es[j]?).getD .any).R _ _
          rw [hE2]
          exact ⟨w.heap.size, rfl, hI.world.size, by simp, hr.s, none, 0, hr.t⟩
        · rw [if_neg hji] at hLj
          rw [put_other (fun e => hji (hD j hj i him e))]
          exact Kd.keep (hI.done j hj hLj) hbA
      · rw [if_neg (Ne.symm hi1)] at h
        have := hI.one h
        show if (if s = i then true else L s) = true then _ else _
        rw [hLs, put_other h12']
        split
        · rw [if_pos (by assumption)] at this
          exact Pd.keep _ _ _ _ this hbA
        · rw [if_neg (by assumption)] at this
          exact Pd.keep _ _ _ _ this hbA
      · rw [if_neg (Ne.symm hi1)]
        rw [hLs] at h
        exact hI.ord h
      · rw [if_neg (Ne.symm hi1)] at ha
        rw [put_self hDa, put_other h12']
        obtain ⟨r1, er1, hr1⟩ := ptr1 hI ha
        exact fresh er1 hr1
    have hdep : ∀ j o', (strip ops)[i]? = some o' → (o'.after.any fun e => e.on == j) = true → L j = true := by
      intro j o' ho' hj
      rw [hso] at ho'
      cases ho'
      obtain ⟨e, he, hej⟩ := Array.any_eq_true'.1 hj
      have he' := Array.mem_filter.1 he
      have : e.on = j := by simpa using hej
      rw [← this]
      exact hdeps e he'.1 he'.2
    refine wpOp_one ho hgu ?_
    have hrun : ((strip ops)[i]?).map (runs fun i => (Es[i]?).getD .any) = some true := by
      rw [hso]
      show some (runs _ (stripO o)) = some true
      unfold runs stripO
      rw [hgu]
    have := hs i him hi1 hi2 his hrun (stripO o) hso a w ⟨hI.size, hI.base, fun j o' ho' hji hj => hI.done j (by omega) (hdep j o' ho' hj)⟩ (fun a' w' => PairI (fun i => (Es[i]?).getD .any) (fun i => (Ds[i]?).getD (1000 + i)) env N m i1 i2 s w0 p A k c (fun j => if j = i then true else L j) a' w') ?_
    · exact this
    · intro v w' hv hbl
      rw [show (stripO o).dst = o.dst from rfl, hdst]
      have o1 : ∀ (v : Value), (a.put (some ((Ds[i]?).getD (1000 + i))) v).tmps.getD ((Ds[i1]?).getD (1000 + i1)) undef = a.tmps.getD ((Ds[i1]?).getD (1000 + i1)) undef := fun v => put_other (fun e => hi1 (hD i1 h1 i him e).symm)
      refine ⟨put_size.trans hI.size, hI.defers, hI.world.trans (hbl.mono hI.world.size), fun t k hk => ?_, fun j hj hLj => ?_, fun h => ?_, fun h => ?_, fun ha hb' => ?_⟩
      · rw [put_other (fun e => by subst e; rw [hk] at hbase; cases hbase)]
        exact Kd.keep (hI.base t k hk) hbl
      · by_cases hji : j = i
        · subst hji
          rw [put_self hDa]
          exact hv
        · rw [if_neg hji] at hLj
          rw [put_other (fun e => hji (hD j hj i him e))]
          exact Kd.keep (hI.done j hj hLj) hbl
      · rw [if_neg (Ne.symm hi1)] at h
        have := hI.one h
        show if (if s = i then true else L s) = true then _ else _
        rw [hLs, o1]
        split
        · rw [if_pos (by assumption)] at this
          exact Pd.keep _ _ _ _ this hbl
        · rw [if_neg (by assumption)] at this
          exact Pd.keep _ _ _ _ this hbl
      · rw [if_neg (Ne.symm hi1)]
        rw [hLs] at h
        exact hI.ord h
      · rw [if_neg (Ne.symm hi1)] at ha
        rw [if_neg (Ne.symm hi2)] at hb'
        rw [o1, put_other (fun e => hi2 (hD i2 h2 i him e).symm)]
        exact hI.apart ha hb'
  · intro L a w hfull hI
    have hone := hI.one (hfull i1 h1)
    rw [if_pos (hfull s hsm)] at hone
    refine hQ a w (hI.apart (hfull i1 h1) (hfull i2 h2)) hone ⟨hI.size, hI.defers, hI.world, fun t k hk => ?_⟩
    rcases look_zip env Ds Es t k hk with ⟨i, h1, h2, h3⟩ | h
    · have := hI.done i (by omega) (hfull i (by omega))
      simp only [h2, h3, Option.getD_some] at this
      exact this
    · exact hI.base t k h
end
end Go.Proofs.Ytapcnehpechkpaa
