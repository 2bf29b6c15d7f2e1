/-
  A region that draws its order and makes a term's cell somewhere among calls: what the calls return lies elsewhere.
-/
import Derived.Test.YtapcnehpechkpaaRes2
import Derived.Test.YtapcnehpechkpaaInv
namespace Go.Proofs.Ytapcnehpechkpaa
set_option linter.unusedVariables false
set_option linter.unusedSimpArgs false
set_option maxRecDepth 100000
open Go.RowKit
theorem turns_gP (r n : Nat) : Turns r (.sat (gP n none)) (.sat (gP n (some r))) := by
  rintro v w o hr ⟨h, _⟩
  exact ⟨by rw [World.size_alloc]; omega, fun q e => by injection e with e; subst e; rw [World.size_alloc]; omega⟩
theorem turns_any (r : Nat) : Turns r .any .any := fun _ _ _ _ _ => trivial
section
variable {ops : Array Oper} {Q : Exit → Act → World → Prop} {N : Nat} {env : Env} {w0 w : World} {a : Act}
structure ResI (E : Nat → Kd) (E' : Nat → Nat → Kd) (D : Nat → Nat) (env : Env) (env' : Nat → Env) (N m i1 n : Nat) (w0 : World) (L : Nat → Bool) (a : Act) (w : World) : Prop where
  size : a.tmps.size = N
  defers : a.defers = []
  world : Below w0.heap.size w0 w
  pre : L i1 = false → (∀ t k, look env t = some k → k.R (a.tmps.getD t undef) w) ∧ ∀ j, j < m → L j = true → (E j).R (a.tmps.getD (D j) undef) w
  post : L i1 = true → ∃ r, w0.heap.size ≤ r ∧ (rC n r zp .nil).R (a.tmps.getD (D i1) undef) w ∧ (∀ t k, look (env' r) t = some k → k.R (a.tmps.getD t undef) w) ∧ ∀ j, j < m → L j = true → (E' r j).R (a.tmps.getD (D j) undef) w
def resGood (ops : Array Oper) (env : Env) (D : Nat → Nat) (N m : Nat) : Bool := (List.range m).all fun i => match ops[i]? with
  | some o => o.guard.isNone && o.dst == some (D i) && decide (D i < N) && (look env (D i)).isNone
  | none => false
theorem env_resD {id m n c i1 : Nat} (Ds : List Nat) (Es : List Kd) (Es' : Nat → List Kd) (env' : Nat → Env) (hn : ops.size = n) (hmn : m ≤ n) (h1 : i1 < m) (hl : lateB ops m [] = true) (hed : edgesB ops = true)
    (hop : (ops[i1]?).map (fun o => o.op) = some (.alloc 24)) (hgood : resGood ops env (fun i => (Ds[i]?).getD (1000 + i)) N m = true) (hm : ∀ r, (Es' r).length = m)
    (hD : ∀ i, i < m → ∀ j, j < m → (Ds[i]?).getD (1000 + i) = (Ds[j]?).getD (1000 + j) → i = j)
    (hs : ∀ i, i < m → i ≠ i1 → RStep (strip ops) Q (fun i => (Es[i]?).getD .any) (fun i => (Ds[i]?).getD (1000 + i)) (look env) N i)
    (hs' : ∀ r i, i < m → i ≠ i1 → RStep (strip ops) Q (fun i => ((Es' r)[i]?).getD .any) (fun i => (Ds[i]?).getD (1000 + i)) (look (env' r)) N i)
    (hE : (Es[i1]?).getD .any = .any) (hE' : ∀ r, ((Es' r)[i1]?).getD .any = .any) (hsub : ∀ r t, look env t = none → look (env' r) t = none)
    (hgo : ∀ r, Goes r env (env' r)) (htu : ∀ r j, j < m → Turns r ((Es[j]?).getD .any) (((Es' r)[j]?).getD .any))
    (st : Hold N env w0 a w)
    (hQ : ∀ r a' w', w0.heap.size ≤ r → (rC c r zp .nil).R (a'.tmps.getD ((Ds[i1]?).getD (1000 + i1)) undef) w' → Hold N (Ds.zip (Es' r) ++ env' r) w0 a' w' → wpOps Try.prog ops Q (List.range' m (n - m)) a' w') : (Code.region id ops true).wp Try.prog Q a w := by
  have hg : ∀ i, i < m → ∃ o, ops[i]? = some o ∧ o.guard = none ∧ o.dst = some ((Ds[i]?).getD (1000 + i)) ∧ (Ds[i]?).getD (1000 + i) < N ∧ look env ((Ds[i]?).getD (1000 + i)) = none := by
    intro i hi
    have h1 := List.all_eq_true.1 hgood i (List.mem_range.2 hi)
    cases ho : ops[i]? with
    | none => rw [ho] at h1; cases h1
    | some o =>
      rw [ho] at h1
      simp only [Bool.and_eq_true, beq_iff_eq, decide_eq_true_eq, Option.isNone_iff_eq_none] at h1
      obtain ⟨⟨⟨h1, h2⟩, h3⟩, h4⟩ := h1
      exact ⟨o, rfl, h1, h2, h3, h4⟩
  refine region_inv (m := m) hn hmn hl hed (ResI (fun i => (Es[i]?).getD .any) (fun r i => ((Es' r)[i]?).getD .any) (fun i => (Ds[i]?).getD (1000 + i)) env env' N m i1 c w0) ?_ ?_ ?_
  · exact ⟨st.size, st.defers, st.world.trans ((drawn_below w).mono st.world.size), fun _ => ⟨fun t k hk => Kd.keep (st.slots t k hk) (drawn_below w), fun j _ h => (by cases h)⟩, fun h => (by cases h)⟩
  · intro L a w i o him ho hLi hdeps hI
    obtain ⟨o', ho', hgu, hdst, hDN, hbase⟩ := hg i him
    rw [ho] at ho'
    cases ho'
    have hDa : (Ds[i]?).getD (1000 + i) < a.tmps.size := by rw [hI.size]; exact hDN
    by_cases hi1 : i = i1
    · subst hi1
      obtain ⟨hb, hd⟩ := hI.pre hLi
      rw [ho] at hop
      have hop := Option.some.inj hop
      refine wpOp_one ho hgu ?_
      obtain ⟨dst, op, ty, pos, after, guard⟩ := o
      have e1 : op = _ := hop
      have e2 : dst = _ := hdst
      subst e1 e2
      refine wp_alloc_op ?_
      have hbA : Below w.heap.size w (w.alloc (.cells #[.int .i64 0, .int .i64 0, .string ⟨#[]⟩, .slice none 0 0] 24)) := (Below.refl _ _).alloc (Nat.le_refl _) _
      have hr := ResAt.new w 24 w.heap.size rfl
      refine ⟨put_size.trans hI.size, hI.defers, hI.world.trans (hbA.mono hI.world.size), fun h => (by simp at h), fun _ => ⟨w.heap.size, hI.world.size, ?_, fun t k hk => ?_, fun j hj hLj => ?_⟩⟩
      · rw [put_self hDa]
        exact ⟨rfl, by simp, hr.s, none, 0, hr.t, ArgsIn.nil _ _ _⟩
      · obtain ⟨k0, h0, ht⟩ := hgo w.heap.size t k hk
        rw [put_other (fun e => by subst e; rw [h0] at hbase; cases hbase)]
        exact ht _ _ _ rfl (hb t k0 h0)
      · by_cases hji : j = i
        · subst hji
          show (((Es' w.heap.size)[j]?).getD .any).R _ _
          rw [hE']
          trivial
        · rw [if_neg hji] at hLj
          rw [put_other (fun e => hji (hD j hj i him e))]
          exact htu _ j hj _ _ _ rfl (hd j hj hLj)
    have hso : (strip ops)[i]? = some (stripO o) := by rw [strip_at, ho]; rfl
    have hdep : ∀ j o', (strip ops)[i]? = some o' → (o'.after.any fun e => e.on == j) = true → L j = true := by
      intro j o' ho' hj
      rw [hso] at ho'
      cases ho'
      obtain ⟨e, he, hej⟩ := Array.any_eq_true'.1 hj
      have he' := Array.mem_filter.1 he
      have : e.on = j := by simpa using hej
      rw [← this]
      exact hdeps e he'.1 he'.2
    have hLs : (if i1 = i then true else L i1) = L i1 := if_neg (Ne.symm hi1)
    refine wpOp_one ho hgu ?_
    cases hL1 : L i1 with
    | false =>
      obtain ⟨hb, hd⟩ := hI.pre hL1
      have hrun : ((strip ops)[i]?).map (runs fun i => (Es[i]?).getD .any) = some true := by
        rw [hso]
        show some (runs _ (stripO o)) = some true
        unfold runs stripO
        rw [hgu]
      have := hs i him hi1 hrun (stripO o) hso a w ⟨hI.size, hb, fun j o' ho' hji hj => hd j (by omega) (hdep j o' ho' hj)⟩ (fun a' w' => ResI (fun i => (Es[i]?).getD .any) (fun r i => ((Es' r)[i]?).getD .any) (fun i => (Ds[i]?).getD (1000 + i)) env env' N m i1 c w0 (fun j => if j = i then true else L j) a' w') ?_
      · exact this
      · intro v w' hv hbl
        rw [show (stripO o).dst = o.dst from rfl, hdst]
        refine ⟨put_size.trans hI.size, hI.defers, hI.world.trans (hbl.mono hI.world.size), fun _ => ⟨fun t k hk => ?_, fun j hj hLj => ?_⟩, fun h => ?_⟩
        · rw [put_other (fun e => by subst e; rw [hk] at hbase; cases hbase)]
          exact Kd.keep (hb t k hk) hbl
        · by_cases hji : j = i
          · subst hji
            rw [put_self hDa]
            exact hv
          · rw [if_neg hji] at hLj
            rw [put_other (fun e => hji (hD j hj i him e))]
            exact Kd.keep (hd j hj hLj) hbl
        · rw [hLs, hL1] at h
          cases h
    | true =>
      obtain ⟨r, hr, hc, hb, hd⟩ := hI.post hL1
      have hrun : ((strip ops)[i]?).map (runs fun i => ((Es' r)[i]?).getD .any) = some true := by
        rw [hso]
        show some (runs _ (stripO o)) = some true
        unfold runs stripO
        rw [hgu]
      have := hs' r i him hi1 hrun (stripO o) hso a w ⟨hI.size, hb, fun j o' ho' hji hj => hd j (by omega) (hdep j o' ho' hj)⟩ (fun a' w' => ResI (fun i => (Es[i]?).getD .any) (fun r i => ((Es' r)[i]?).getD .any) (fun i => (Ds[i]?).getD (1000 + i)) env env' N m i1 c w0 (fun j => if j = i then true else L j) a' w') ?_
      · exact this
      · intro v w' hv hbl
        rw [show (stripO o).dst = o.dst from rfl, hdst]
        refine ⟨put_size.trans hI.size, hI.defers, hI.world.trans (hbl.mono hI.world.size), fun h => ?_, fun _ => ⟨r, hr, ?_, fun t k hk => ?_, fun j hj hLj => ?_⟩⟩
        · rw [hLs, hL1] at h
          cases h
        · rw [put_other (fun e => hi1 (hD i1 h1 i him e).symm)]
          exact Pd.keep _ _ _ _ hc hbl
        · rw [put_other (fun e => by subst e; rw [hsub r _ hbase] at hk; cases hk)]
          exact Kd.keep (hb t k hk) hbl
        · by_cases hji : j = i
          · subst hji
            rw [put_self hDa]
            exact hv
          · rw [if_neg hji] at hLj
            rw [put_other (fun e => hji (hD j hj i him e))]
            exact Kd.keep (hd j hj hLj) hbl
  · intro L a w hfull hI
    obtain ⟨r, hr, hc, hb, hd⟩ := hI.post (hfull i1 h1)
    refine hQ r a w hr hc ⟨hI.size, hI.defers, hI.world, fun t k hk => ?_⟩
    rcases look_zip (env' r) Ds (Es' r) t k hk with ⟨i, h1, h2, h3⟩ | h
    · have hm' := hm r
      have := hd i (by omega) (hfull i (by omega))
      simp only [h2, h3, Option.getD_some] at this
      exact this
    · exact hb t k h
end
end Go.Proofs.Ytapcnehpechkpaa
