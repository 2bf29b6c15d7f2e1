/-
  A region that draws its order and writes the result's cell once, where operations without effect may come up behind the writing.
-/
import Derived.Test.YtapcnehpechkpaaRes2
import Derived.Test.YtapcnehpechkpaaInv
namespace Go.Proofs.Ytapcnehpechkpaa
set_option linter.unusedVariables false
set_option linter.unusedSimpArgs false
set_option maxRecDepth 100000
open Go.RowKit
section
variable {ops : Array Oper} {Q : Exit → Act → World → Prop} {N : Nat} {env : Env} {w0 w : World} {a : Act}
structure LateI (E E' : Nat → Kd) (D : Nat → Nat) (env env2 : Env) (N m s : Nat) (late : List Nat) (w0 : World) (L : Nat → Bool) (a : Act) (w : World) : Prop where
  size : a.tmps.size = N
  defers : a.defers = []
  world : Below w0.heap.size w0 w
  pre : L s = false → (∀ t k, look env t = some k → k.R (a.tmps.getD t undef) w) ∧ ∀ j, j < m → L j = true → (E j).R (a.tmps.getD (D j) undef) w
  post : L s = true → (∀ t k, look env2 t = some k → k.R (a.tmps.getD t undef) w) ∧ (∀ j, j < m → j ≠ s → L j = true → (E' j).R (a.tmps.getD (D j) undef) w) ∧ ∀ i, i < m → i ≠ s → late.contains i = false → L i = true
def lateGood (ops : Array Oper) (env env2 : Env) (D : Nat → Nat) (N s m : Nat) : Bool := (List.range m).all fun i => i == s || match ops[i]? with
  | some o => o.guard.isNone && o.dst == some (D i) && decide (D i < N) && (look env (D i)).isNone && (look env2 (D i)).isNone
  | none => false
def preB (ops : Array Oper) (late : List Nat) (s m : Nat) : Bool := match ops[s]? with
  | some o => (List.range m).all fun i => i == s || late.contains i || o.after.any fun e => Region.binds .any e && e.on == i
  | none => false
theorem late_nil {S : Nat → Prop} : ∀ i, i ∈ ([] : List Nat) → S i := fun _ h => by cases h
theorem late_cons {S : Nat → Prop} {i : Nat} {l : List Nat} (h : S i) (h' : ∀ j, j ∈ l → S j) : ∀ j, j ∈ i :: l → S j := fun j hj => by
  cases hj with
  | head => exact h
  | tail _ hj => exact h' j hj
theorem env_late {id m n s x y nn r jy : Nat} {p0 p : Pay} {l0 l : Fo} (Ds : List Nat) (Es Es' : List Kd) (env' : Env) (late : List Nat)
    (hm' : Es'.length = m) (hn : ops.size = n) (hmn : m ≤ n) (hsm : s < m) (hl : lateB ops m [] = true) (hed : edgesB ops = true)
    (hop : (ops[s]?).map (fun o => (o.op, o.dst, o.guard)) = some (.store 24 (.tmp x) (.tmp y), none, none))
    (hgood : lateGood ops env ((x, .sat (rC nn r p l)) :: env') (fun i => (Ds[i]?).getD (1000 + i)) N s m = true)
    (hD : ∀ i, i < m → ∀ j, j < m → (Ds[i]?).getD (1000 + i) = (Ds[j]?).getD (1000 + j) → i = j)
    (hs1 : ∀ i, i < m → i ≠ s → RStep (strip ops) Q (fun i => (Es[i]?).getD .any) (fun i => (Ds[i]?).getD (1000 + i)) (look env) N i)
    (hs2 : ∀ i, i ∈ late → RStep (strip ops) Q (fun i => (Es'[i]?).getD .any) (fun i => (Ds[i]?).getD (1000 + i)) (look ((x, .sat (rC nn r p l)) :: env')) N i)
    (hpre : preB ops late s m = true) (hx : look env x = some (.sat (rC nn r p0 l0)))
    (hjm : jy < m) (hjs : jy ≠ s) (hjl : late.contains jy = false) (hjd : (Ds[jy]?).getD (1000 + jy) = y) (hjE : (Es[jy]?).getD .any = .sat (nT nn (some r) p l)) (hsD : (Ds[s]?).getD (1000 + s) = 1000 + s)
    (hr : w0.heap.size ≤ r) (hst : Stays r env env')
    (hE' : ∀ j, j < m → (Es'[j]?).getD .any = .any ∨ ((Es'[j]?).getD .any = (Es[j]?).getD .any ∧ Away r ((Es[j]?).getD .any)))
    (hEs : (Es'[s]?).getD .any = .any)
    (st : Hold N env w0 a w)
    (hQ : ∀ a' w', Hold N (Ds.zip Es' ++ (x, .sat (rC nn r p l)) :: env') w0 a' w' → wpOps Try.prog ops Q (List.range' m (n - m)) a' w') : (Code.region id ops true).wp Try.prog Q a w := by
  have hg : ∀ i, i < m → i ≠ s → ∃ o, ops[i]? = some o ∧ o.guard = none ∧ o.dst = some ((Ds[i]?).getD (1000 + i)) ∧ (Ds[i]?).getD (1000 + i) < N ∧ look env ((Ds[i]?).getD (1000 + i)) = none ∧ look ((x, .sat (rC nn r p l)) :: env') ((Ds[i]?).getD (1000 + i)) = none := by
    intro i hi his
    have h1 := List.all_eq_true.1 hgood i (List.mem_range.2 hi)
    simp only [Bool.or_eq_true, beq_iff_eq] at h1
    rcases h1 with h1 | h1
    · exact absurd h1 his
    · cases ho : ops[i]? with
      | none => rw [ho] at h1; cases h1
      | some o =>
        rw [ho] at h1
        simp only [Bool.and_eq_true, beq_iff_eq, decide_eq_true_eq, Option.isNone_iff_eq_none] at h1
        obtain ⟨⟨⟨⟨h1, h2⟩, h3⟩, h4⟩, h5⟩ := h1
        exact ⟨o, rfl, h1, h2, h3, h4, h5⟩
  refine region_inv (m := m) hn hmn hl hed (LateI (fun i => (Es[i]?).getD .any) (fun i => (Es'[i]?).getD .any) (fun i => (Ds[i]?).getD (1000 + i)) env ((x, .sat (rC nn r p l)) :: env') N m s late w0) ?_ ?_ ?_
  · exact ⟨st.size, st.defers, st.world.trans ((drawn_below w).mono st.world.size), fun _ => ⟨fun t k hk => Kd.keep (st.slots t k hk) (drawn_below w), fun j _ h => by cases h⟩, fun h => by cases h⟩
  · intro L a w i o him ho hLi hdeps hI
    by_cases his : i = s
    · subst his
      obtain ⟨hb, hd⟩ := hI.pre hLi
      obtain ⟨ex, hrw, hsoft, A0, c0, ht, _⟩ := hb _ _ hx
      rw [ho] at hop
      have hop := Option.some.inj hop
      have hpre' : ∀ j, j < m → j ≠ i → late.contains j = false → L j = true := by
        intro j hj hji hjl
        unfold preB at hpre
        rw [ho] at hpre
        have h1 := List.all_eq_true.1 hpre j (List.mem_range.2 hj)
        simp only [Bool.or_eq_true, beq_iff_eq] at h1
        rcases h1 with (h1 | h1) | h1
        · exact absurd h1 hji
        · rw [hjl] at h1; cases h1
        · obtain ⟨e, he, h2⟩ := Array.any_eq_true'.1 h1
          simp only [Bool.and_eq_true, beq_iff_eq] at h2
          rw [← h2.2]
          exact hdeps e he h2.1
      have hy := hd jy hjm (hpre' jy hjm hjs hjl)
      simp only [hjE, hjd] at hy
      obtain ⟨A, c, ey, ha⟩ := hy
      obtain ⟨dst, op, ty, pos, after, guard⟩ := o
      simp only [Prod.mk.injEq] at hop
      obtain ⟨e1, e2, e3⟩ := hop
      subst e1 e2 e3
      have hrun := run_store_at (a := a) (x := .tmp x) (y := .tmp y) (ty := ty) (pos := pos) (after := after) (guard := none) w r p A (Tm.len l) c ex ey ht.four hsoft
      have sd := stored w r p p0 A A0 (Tm.len l) c (Tm.len l0) c0 ht hsoft
      have hw : Wrote r w (set4 w r 0 p A (Tm.len l) c) := ⟨sd.size, fun b hb => sd.block b hb⟩
      refine wpOp_one ho rfl ?_
      unfold Oper.wp
      rw [hrun]
      refine ⟨hI.size, hI.defers, sd.below _ _ hI.world hr, fun h => by simp at h, fun _ => ⟨fun t k hk => ?_, fun j hj hji hLj => ?_, fun j hj hji hjl => ?_⟩⟩
      · rw [look_cons] at hk
        by_cases e : x = t
        · subst e
          rw [if_pos (by simp)] at hk
          cases hk
          exact ⟨ex, by rw [sd.size]; exact hrw, sd.soft, A, c, sd.term, ha.wrote hw⟩
        · rw [if_neg (by simpa using e)] at hk
          obtain ⟨h1, h2⟩ := hst t k hk
          exact h2 _ _ _ hw (hb t k h1)
      · rw [if_neg hji] at hLj
        have h1 := hd j hj hLj
        rcases hE' j hj with h2 | ⟨h2, h3⟩
        · show ((Es'[j]?).getD .any).R _ _
          rw [h2]
          trivial
        · show ((Es'[j]?).getD .any).R _ _
          rw [h2]
          exact h3 _ _ _ hw h1
      · rw [if_neg hji]
        exact hpre' j hj hji hjl
    · obtain ⟨o', ho', hgu, hdst, hDN, hbase, hbase2⟩ := hg i him his
      rw [ho] at ho'
      cases ho'
      have hso : (strip ops)[i]? = some (stripO o) := by rw [strip_at, ho]; rfl
      have hDa : (Ds[i]?).getD (1000 + i) < a.tmps.size := by rw [hI.size]; exact hDN
      have hdep : ∀ j o', (strip ops)[i]? = some o' → (o'.after.any fun e => e.on == j) = true → L j = true := by
        intro j o' ho' hj
        rw [hso] at ho'
        cases ho'
        obtain ⟨e, he, hej⟩ := Array.any_eq_true'.1 hj
        have he' := Array.mem_filter.1 he
        have : e.on = j := by simpa using hej
        rw [← this]
        exact hdeps e he'.1 he'.2
      refine wpOp_one ho hgu ?_
      cases hLs : L s with
      | false =>
        obtain ⟨hb, hd⟩ := hI.pre hLs
        have hrun : ((strip ops)[i]?).map (runs fun i => (Es[i]?).getD .any) = some true := by
          rw [hso]
          show some (runs _ (stripO o)) = some true
          unfold runs stripO
          rw [hgu]
        have := hs1 i him his hrun (stripO o) hso a w ⟨hI.size, hb, fun j o' ho' hji hj => hd j (by omega) (hdep j o' ho' hj)⟩ (fun a' w' => LateI (fun i => (Es[i]?).getD .any) (fun i => (Es'[i]?).getD .any) (fun i => (Ds[i]?).getD (1000 + i)) env ((x, .sat (rC nn r p l)) :: env') N m s late w0 (fun j => if j = i then true else L j) a' w') ?_
        · exact this
        · intro v w' hv hbl
          rw [show (stripO o).dst = o.dst from rfl, hdst]
          refine ⟨put_size.trans hI.size, hI.defers, hI.world.trans (hbl.mono hI.world.size), fun _ => ⟨fun t k hk => ?_, fun j hj hLj => ?_⟩, fun h => ?_⟩
          · rw [put_other (fun e => by subst e; rw [hk] at hbase; cases hbase)]
            exact Kd.keep (hb t k hk) hbl
          · by_cases hji : j = i
            · subst hji
              rw [put_self hDa]
              exact hv
            · rw [if_neg hji] at hLj
              rw [put_other (fun e => hji (hD j hj i him e))]
              exact Kd.keep (hd j hj hLj) hbl
          · rw [if_neg (fun e => his e.symm), hLs] at h
            cases h
      | true =>
        obtain ⟨hb, hd, hall⟩ := hI.post hLs
        have hil : i ∈ late := by
          cases hc : late.contains i with
          | true => simpa using hc
          | false => rw [hall i him his hc] at hLi; cases hLi
        have hrun : ((strip ops)[i]?).map (runs fun i => (Es'[i]?).getD .any) = some true := by
          rw [hso]
          show some (runs _ (stripO o)) = some true
          unfold runs stripO
          rw [hgu]
        have := hs2 i hil hrun (stripO o) hso a w ⟨hI.size, hb, fun j o' ho' hji hj => by
          by_cases hjs : j = s
          · subst hjs
            show ((Es'[j]?).getD .any).R _ _
            rw [hEs]
            trivial
          · exact hd j (by omega) hjs (hdep j o' ho' hj)⟩ (fun a' w' => LateI (fun i => (Es[i]?).getD .any) (fun i => (Es'[i]?).getD .any) (fun i => (Ds[i]?).getD (1000 + i)) env ((x, .sat (rC nn r p l)) :: env') N m s late w0 (fun j => if j = i then true else L j) a' w') ?_
        · exact this
        · intro v w' hv hbl
          rw [show (stripO o).dst = o.dst from rfl, hdst]
          refine ⟨put_size.trans hI.size, hI.defers, hI.world.trans (hbl.mono hI.world.size), fun h => ?_, fun _ => ⟨fun t k hk => ?_, fun j hj hjs hLj => ?_, fun j hj hjs hjl => ?_⟩⟩
          · rw [if_neg (fun e => his e.symm), hLs] at h
            cases h
          · rw [put_other (fun e => by subst e; rw [hk] at hbase2; cases hbase2)]
            exact Kd.keep (hb t k hk) hbl
          · by_cases hji : j = i
            · subst hji
              rw [put_self hDa]
              exact hv
            · rw [if_neg hji] at hLj
              rw [put_other (fun e => hji (hD j hj i him e))]
              exact Kd.keep (hd j hj hjs hLj) hbl
          · by_cases hji : j = i
            · rw [if_pos hji]
            · rw [if_neg hji]
              exact hall j hj hjs hjl
  · intro L a w hfull hI
    obtain ⟨hb, hd, _⟩ := hI.post (hfull s hsm)
    refine hQ a w ⟨hI.size, hI.defers, hI.world, fun t k hk => ?_⟩
    rcases look_zip ((x, .sat (rC nn r p l)) :: env') Ds Es' t k hk with ⟨i, h1, h2, h3⟩ | h
    · by_cases his : i = s
      · subst his
        have : (Es'[i]?).getD .any = k := by rw [h3]; rfl
        rw [hEs] at this
        subst this
        trivial
      · have := hd i (by omega) his (hfull i (by omega))
        simp only [h2, h3, Option.getD_some] at this
        exact this
    · exact hb t k h
end
end Go.Proofs.Ytapcnehpechkpaa
