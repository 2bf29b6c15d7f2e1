/-
  A region that draws its order, whose last operations come up behind all others, in the order of the text.
-/
import Derived.Test.YtapcnehpechkpaaEnv4
namespace Go.Proofs.Ytapcnehpechkpaa
set_option linter.unusedVariables false
set_option linter.unusedSimpArgs false
set_option maxRecDepth 100000
open Go.RowKit
section
variable {ops : Array Oper} {Q : Exit → Act → World → Prop} {N : Nat} {env : Env} {w0 w : World} {a : Act}

/-- The state behind those of the first m operations that have come up. -/
structure Stm (ops : Array Oper) (E : Nat → Kd) (D : Nat → Nat) (base : Nat → Option Kd) (N m : Nat) (w0 : World) (listed : Array Bool) (a : Act) (w : World) : Prop where
  size : a.tmps.size = N
  defers : a.defers = []
  world : Below w0.heap.size w0 w
  base : ∀ t k, base t = some k → k.R (a.tmps.getD t undef) w
  done : ∀ j, j < m → listed.getD j false = true → (E j).R (a.tmps.getD (D j) undef) w
/-- Operation j waits for operation i, at once or through others. -/
def waits (ops : Array Oper) : Nat → Nat → Nat → Bool
  | 0, _, _ => false
  | f + 1, j, i => match ops[j]? with
    | none => false
    | some o => (o.after.any fun e => Region.binds .any e && e.on == i) || (o.after.any fun e => Region.binds .any e && waits ops f e.on i)
def Closed (ops : Array Oper) (listed : Array Bool) : Prop := ∀ j o, ops[j]? = some o → listed.getD j false = true → ∀ e ∈ o.after, Region.binds .any e = true → listed.getD e.on false = true
theorem waits_spec {listed : Array Bool} (hc : Closed ops listed) : ∀ (f j i : Nat) (o : Oper), ops[j]? = some o → (∀ e ∈ o.after, Region.binds .any e = true → listed.getD e.on false = true) → waits ops f j i = true → listed.getD i false = true
  | 0, j, i, o, _, _, h => by cases h
  | f + 1, j, i, o, ho, hd, h => by
    unfold waits at h
    rw [ho] at h
    simp only [Bool.or_eq_true] at h
    rcases h with h | h
    · obtain ⟨e, he, hb⟩ := Array.any_eq_true'.1 h
      simp only [Bool.and_eq_true, beq_iff_eq] at hb
      rw [← hb.2]
      exact hd e he hb.1
    · obtain ⟨e, he, hb⟩ := Array.any_eq_true'.1 h
      simp only [Bool.and_eq_true] at hb
      have hl := hd e he hb.1
      cases ho' : ops[e.on]? with
      | none =>
        have h2 := hb.2
        cases f with
        | zero => cases h2
        | succ f =>
          unfold waits at h2
          rw [ho'] at h2
          cases h2
      | some o' => exact waits_spec hc f e.on i o' ho' (hc e.on o' ho' hl) hb.2
def lateB (ops : Array Oper) (m : Nat) (pre : List Nat) : Bool := (List.range ops.size).all fun j => decide (j < m) || (List.range j).all fun i => pre.contains i || waits ops 12 j i
def edgesB (ops : Array Oper) : Bool := (List.range ops.size).all fun j => match ops[j]? with
  | none => true
  | some o => o.after.all fun e => !(Region.binds .any e) || decide (e.on < j)
theorem lateB_spec {m : Nat} {pre : List Nat} (h : lateB ops m pre = true) {j i : Nat} (hj : j < ops.size) (hm : m ≤ j) (hi : i < j) : i ∈ pre ∨ waits ops 12 j i = true := by
  have h1 := List.all_eq_true.1 h j (List.mem_range.2 hj)
  rw [Bool.or_eq_true, decide_eq_true_eq] at h1
  rcases h1 with h1 | h1
  · omega
  · have h2 := List.all_eq_true.1 h1 i (List.mem_range.2 hi)
    rw [Bool.or_eq_true] at h2
    rcases h2 with h2 | h2
    · exact .inl (by simpa using h2)
    · exact .inr h2
theorem edgesB_spec (h : edgesB ops = true) {j : Nat} {o : Oper} (ho : ops[j]? = some o) : ∀ e ∈ o.after, Region.binds .any e = true → e.on < j := by
  intro e he hb
  have hj : j < ops.size := (Array.getElem?_eq_some_iff.1 ho).1
  have h1 := List.all_eq_true.1 h j (List.mem_range.2 hj)
  rw [ho] at h1
  have h2 := Array.all_eq_true'.1 h1 e he
  rw [hb] at h2
  simpa using h2
theorem closed_set {listed : Array Bool} {i : Nat} (hc : Closed ops listed) (hi : i ∈ Region.ready .any ops listed) : Closed ops (listed.setIfInBounds i true) := by
  obtain ⟨hun, o, ho, hd⟩ := mem_ready.1 hi
  intro j oj hoj hl e he hb
  by_cases hji : j = i
  · subst hji
    rw [ho] at hoj
    cases hoj
    exact getD_set_true (hd e he hb)
  · rw [getD_set_ne false (Ne.symm hji)] at hl
    exact getD_set_true (hc j oj hoj hl e he hb)
theorem cnt_set {listed : Array Bool} {n i : Nat} (hi : i < n) (hs : listed.size = n) (hun : listed.getD i true = false) : cnt n (listed.setIfInBounds i true) < cnt n listed := by
  unfold cnt
  have hil : i < listed.size := by omega
  refine countP_lt _ (fun x _ hx => ?_) i (List.mem_range.2 hi) (by simp only [hun]; rfl) (by simp [hil])
  by_cases hxi : i = x
  · subst hxi
    simp [hil] at hx
  · rw [getD_set_ne true hxi] at hx
    exact hx
theorem cnt_pos {listed : Array Bool} {n i : Nat} (hi : i < n) (hun : listed.getD i true = false) : 0 < cnt n listed := by
  unfold cnt
  exact List.countP_pos_iff.2 ⟨i, List.mem_range.2 hi, by simp only [hun]; rfl⟩
/-- The last operations, one after the other. -/
theorem any_chain {m : Nat} {pre : List Nat} (hlate : lateB ops m pre = true) (hed : edgesB ops = true) : ∀ (n k fuel : Nat) (listed : Array Bool) (a : Act) (w : World), k + n = ops.size → m ≤ k → listed.size = ops.size → Closed ops listed →
    (∀ j, j < k → listed.getD j false = true) → (∀ j, k ≤ j → listed.getD j false = false) → (∀ i ∈ pre, listed.getD i false = true) → cnt ops.size listed ≤ fuel → wpOps Try.prog ops Q (List.range' k n) a w → wpAny Try.prog .any ops Q fuel listed a w := by
  intro n
  induction n with
  | zero =>
    intro k fuel listed a w hk hm hls hc h1 h2 hp hcnt h
    have hr : Region.ready .any ops listed = [] := by
      cases hr : Region.ready .any ops listed with
      | nil => rfl
      | cons i rest =>
        exfalso
        have hmem : i ∈ Region.ready .any ops listed := by rw [hr]; exact List.mem_cons_self ..
        obtain ⟨hun, o, ho, _⟩ := mem_ready.1 hmem
        have hlt : i < ops.size := (Array.getElem?_eq_some_iff.1 ho).1
        have := h1 i (by omega)
        rw [getD_true_of_lt (by omega)] at hun
        rw [this] at hun
        cases hun
    have hn : Q .normal a w := h
    cases fuel with
    | zero => exact ⟨hr, hn⟩
    | succ f => exact ⟨fun _ => hn, fun i hi => by rw [hr] at hi; cases hi⟩
  | succ n ih =>
    intro k fuel listed a w hk hm hls hc h1 h2 hp hcnt h
    have hkl : k < ops.size := by omega
    have hun : listed.getD k true = false := by rw [getD_true_of_lt (by omega)]; exact h2 k (Nat.le_refl _)
    have hkr : k ∈ Region.ready .any ops listed := mem_ready.2 ⟨hun, ops[k], Array.getElem?_eq_getElem hkl, fun e he hb => h1 e.on (edgesB_spec hed (Array.getElem?_eq_getElem hkl) e he hb)⟩
    have hpos := cnt_pos hkl hun
    cases fuel with
    | zero => omega
    | succ f =>
      refine ⟨fun hr => absurd hkr (by rw [hr]; exact List.not_mem_nil), fun i hi => ?_⟩
      obtain ⟨hiun, o, ho, hd⟩ := mem_ready.1 hi
      have hil : i < ops.size := (Array.getElem?_eq_some_iff.1 ho).1
      have hik : i = k := by
        rcases Nat.lt_trichotomy i k with hlt | he | hgt
        · have := h1 i hlt
          rw [getD_true_of_lt (by omega), this] at hiun
          cases hiun
        · exact he
        · exfalso
          have hl : listed.getD k false = true := by
            rcases lateB_spec hlate hil (by omega) hgt with h3 | h3
            · exact hp k h3
            · exact waits_spec hc 12 i k o ho hd h3
          rw [h2 k (Nat.le_refl _)] at hl
          cases hl
      subst hik
      have h' : wpOps Try.prog ops Q (i :: List.range' (i + 1) n) a w := h
      rw [wpOps_cons] at h'
      have hkls : i < listed.size := by omega
      refine wpOp_mono (fun a' w' h3 => ih (i + 1) f _ a' w' (by omega) (by omega) (by simpa using hls) (closed_set hc hi) (fun j hj => ?_) (fun j hj => ?_) (fun j hj => getD_set_true (hp j hj)) (by have := cnt_set hkl hls hun; omega) h3) h'
      · by_cases hji : j = i
        · subst hji; simp [hkls]
        · exact getD_set_true (h1 j (by omega))
      · rw [getD_set_ne false (by omega)]; exact h2 j (by omega)
theorem any_then {E : Nat → Kd} {D : Nat → Nat} {base : Nat → Option Kd} (m : Nat) (pre : List Nat) (hm : m ≤ ops.size) (hop : ∀ i o, i < m → ops[i]? = some o → goodOp3 E D base N i o = true) (hD : ∀ i j, i < m → j < m → D i = D j → i = j) (hs : ∀ i, i < m → RStep ops Q E D base N i)
    (hlate : lateB ops m pre = true) (hed : edgesB ops = true)
    (w0 : World) (hQ : ∀ listed a w, (∀ j, j < m → listed.getD j false = true) → Stm ops E D base N m w0 listed a w → wpOps Try.prog ops Q (List.range' m (ops.size - m)) a w) :
    ∀ (fuel : Nat) (listed : Array Bool) (a : Act) (w : World), cnt ops.size listed ≤ fuel → listed.size = ops.size → Closed ops listed → (∀ i ∈ pre, listed.getD i false = true) → (∀ j, m ≤ j → listed.getD j false = false) → Stm ops E D base N m w0 listed a w → wpAny Try.prog .any ops Q fuel listed a w := by
  have hpart : ∀ i o, i < m → ops[i]? = some o → (∀ e ∈ o.after, e.on < i ∧ Region.binds .any e = true) ∧ o.dst = some (D i) ∧ D i < N ∧ base (D i) = none ∧ (∀ g b, o.guard = some (g, b) → (o.after.any fun e => e.on == g) = true ∧ ((E g).isB b = true ∨ ((E g).no b = true ∧ (E i).isU = true))) := by
    intro i o him ho
    have hg := hop i o him ho
    unfold goodOp3 at hg
    simp only [Bool.and_eq_true, decide_eq_true_eq, beq_iff_eq, Option.isNone_iff_eq_none] at hg
    obtain ⟨⟨⟨⟨h1, h2⟩, h3⟩, h4⟩, h5⟩ := hg
    refine ⟨fun e he => ?_, h3, h4, h5, fun g b hgd => ?_⟩
    · have := Array.all_eq_true'.1 h1 e he
      rw [Bool.and_eq_true, decide_eq_true_eq] at this
      exact this
    · rw [hgd] at h2
      simp only [Bool.and_eq_true, Bool.or_eq_true] at h2
      exact h2
  intro fuel
  induction fuel with
  | zero =>
    intro listed a w hc hl hcl hp hno st
    by_cases hfull : ∀ j, j < m → listed.getD j false = true
    · exact any_chain hlate hed (ops.size - m) m 0 listed a w (by omega) (Nat.le_refl _) hl hcl hfull hno hp hc (hQ listed a w hfull st)
    · exfalso
      apply hfull
      intro j hj
      cases hb : listed.getD j false with
      | true => rfl
      | false =>
        have := cnt_pos (n := ops.size) (i := j) (listed := listed) (by omega) (by rw [getD_true_of_lt (by omega)]; exact hb)
        omega
  | succ fuel ih =>
    intro listed a w hc hl hcl hp hno st
    by_cases hfull : ∀ j, j < m → listed.getD j false = true
    · exact any_chain hlate hed (ops.size - m) m (fuel + 1) listed a w (by omega) (Nat.le_refl _) hl hcl hfull hno hp hc (hQ listed a w hfull st)
    have hready : ∀ i, i ∈ Region.ready .any ops listed → i < m := by
      intro i hi
      rcases Nat.lt_or_ge i m with h | h
      · exact h
      · exfalso
        apply hfull
        intro j hj
        obtain ⟨hun, o, ho, hd⟩ := mem_ready.1 hi
        have hil : i < ops.size := (Array.getElem?_eq_some_iff.1 ho).1
        rcases lateB_spec hlate hil h (show j < i by omega) with h3 | h3
        · exact hp j h3
        · exact waits_spec hcl 12 i j o ho hd h3
    have hsome : Region.ready .any ops listed ≠ [] := by
      intro hr
      apply hfull
      intro j
      induction j using Nat.strongRecOn with
      | ind j ihj =>
        intro hj
        cases hb : listed.getD j false with
        | true => rfl
        | false =>
          exfalso
          have ho : ops[j]? = some ops[j] := Array.getElem?_eq_getElem (by omega)
          have hmem : j ∈ Region.ready .any ops listed := mem_ready.2 ⟨by rw [getD_true_of_lt (by omega)]; exact hb, ops[j], ho, fun e he hbind => by
            have h1 := (hpart j _ hj ho).1 e he
            exact ihj e.on h1.1 (Nat.lt_trans h1.1 hj)⟩
          rw [hr] at hmem
          cases hmem
    refine ⟨fun hr => absurd hr hsome, fun i hi => ?_⟩
    have him := hready i hi
    obtain ⟨hun, o, ho, hdep⟩ := mem_ready.1 hi
    have hlt : i < ops.size := (Array.getElem?_eq_some_iff.1 ho).1
    obtain ⟨hon, hdst, hDN, hbase, hgrd⟩ := hpart i o him ho
    have hdone : ∀ j, (o.after.any fun e => e.on == j) = true → (E j).R (a.tmps.getD (D j) undef) w := by
      intro j hj
      obtain ⟨e, he, hej⟩ := Array.any_eq_true'.1 hj
      have : e.on = j := by simpa using hej
      subst this
      exact st.done e.on (by have := (hon e he).1; omega) (hdep e he (hon e he).2)
    have hil : i < listed.size := by omega
    have hgo : ∀ v w', (E i).R v w' → Below w.heap.size w w' → wpAny Try.prog .any ops Q fuel (listed.setIfInBounds i true) (a.put o.dst v) w' := by
      intro v w' hv hb
      refine ih _ _ _ (by have := cnt_set hlt hl hun; omega) (by simpa using hl) (closed_set hcl hi) (fun j hj => getD_set_true (hp j hj)) (fun j hj => by rw [getD_set_ne false (by omega)]; exact hno j hj) ?_
      rw [hdst]
      have hDa : D i < a.tmps.size := by rw [st.size]; exact hDN
      refine ⟨put_size.trans st.size, st.defers, st.world.trans (hb.mono st.world.size), fun t k hk => ?_, fun j hj hjl => ?_⟩
      · rw [put_other (fun e => by subst e; rw [hk] at hbase; cases hbase)]
        exact Kd.keep (st.base t k hk) hb
      · by_cases hji : j = i
        · subst hji
          rw [put_self hDa]
          exact hv
        · rw [put_other (fun e => hji (hD j i hj him e))]
          rw [getD_set_ne false (Ne.symm hji)] at hjl
          exact Kd.keep (st.done j hj hjl) hb
    have hyield : ∀ g b, (o.after.any fun e => e.on == g) = true → (E g).isB b = true → yielded ops a.tmps g = some b := by
      intro g b hga hE
      have hv := hdone g hga
      rw [Kd.isB_spec hE] at hv
      have hv' : a.tmps.getD (D g) undef = .bool b := hv
      obtain ⟨e, he, hej⟩ := Array.any_eq_true'.1 hga
      have hge : e.on = g := by simpa using hej
      have hgm : g < m := by have := (hon e he).1; omega
      have hgl : g < ops.size := by omega
      have hgo : ops[g]? = some ops[g] := Array.getElem?_eq_getElem hgl
      obtain ⟨_, h2, h3, _⟩ := hpart g _ hgm hgo
      have hlt2 : D g < a.tmps.size := by rw [st.size]; exact h3
      have ht : a.tmps[D g]? = some (.bool b) := by
        rw [Array.getElem?_eq_getElem hlt2]
        have : a.tmps.getD (D g) undef = a.tmps[D g] := by simp [hlt2]
        rw [← this, hv']
      unfold yielded
      rw [hgo]
      simp only [Option.bind_some, h2, ht]
    have hrun : runs E o = true → Region.wanted o (yielded ops a.tmps) = true := by
      intro hr
      unfold runs at hr
      unfold Region.wanted
      cases hgd : o.guard with
      | none => rfl
      | some gb =>
        obtain ⟨g, b⟩ := gb
        rw [hgd] at hr
        simp only [hyield g b (hgrd g b hgd).1 hr]
        cases b <;> rfl
    unfold wpOp
    simp only [ho]
    cases hr : runs E o with
    | true =>
      simp only [hrun hr, if_true]
      exact .inl (hs i him (by rw [ho]; exact congrArg some hr) o ho a w ⟨st.size, st.base, fun j o' ho' _ hj => by rw [ho] at ho'; cases ho'; exact hdone j hj⟩ _ hgo)
    | false =>
      unfold runs at hr
      cases hgd : o.guard with
      | none => rw [hgd] at hr; cases hr
      | some gb =>
        obtain ⟨g, b⟩ := gb
        rw [hgd] at hr
        have hr : (E g).isB b = false := hr
        obtain ⟨h1, h2⟩ := hgrd g b hgd
        rcases h2 with h2 | ⟨h2, h3⟩
        · rw [h2] at hr; cases hr
        · have hw : Region.wanted o (yielded ops a.tmps) = false := by
            obtain ⟨e, he, hej⟩ := Array.any_eq_true'.1 h1
            have hge : e.on = g := by simpa using hej
            have hgm : g < m := by have := (hon e he).1; omega
            have hgo : ops[g]? = some ops[g] := Array.getElem?_eq_getElem (by omega)
            refine not_wanted hgd (yield_ne (dg := D g) ?_ (Kd.no_spec h2 (hdone g h1)))
            rw [hgo]
            exact (hpart g _ hgm hgo).2.1
          rw [hw]
          exact hgo undef w (by rw [Kd.isU_spec h3]; rfl) (Below.refl _ _)
theorem wpOps_strip : ∀ (l : List Nat) (a : Act) (w : World), wpOps Try.prog ops Q l a w → wpOps Try.prog (strip ops) Q l a w
  | [], a, w, h => h
  | i :: rest, a, w, h => by
    unfold wpOps at *
    rw [strip_at, strip_yielded]
    cases ho : ops[i]? with
    | none => rw [ho] at h; exact wpOps_strip rest a w h
    | some o =>
      rw [ho] at h
      simp only [Option.map_some] at h ⊢
      have hw : Region.wanted (stripO o) (yielded ops a.tmps) = Region.wanted o (yielded ops a.tmps) := rfl
      rw [hw]
      by_cases hx : Region.wanted o (yielded ops a.tmps) = true
      · rw [if_pos hx] at h ⊢
        rcases h with h | h
        · exact .inl (show (stripO o).wp Try.prog a w _ Q from (Oper.wp_mono (fun a w h => wpOps_strip rest a w h) h))
        · exact .inr h
      · rw [if_neg hx] at h ⊢
        exact wpOps_strip rest _ w h
theorem drawn_below (w : World) : Below w.heap.size w { w with drawn := w.drawn + 1 } := ⟨rfl, rfl, rfl, Nat.le_refl _, fun _ _ => rfl⟩
theorem closed_none (n : Nat) : Closed ops (Array.replicate n false) := fun j o _ hl => by
  exfalso
  by_cases hj : j < n
  · simp [hj] at hl
  · simp [hj] at hl
theorem none_listed (n j : Nat) : (Array.replicate n false).getD j false = false := by
  by_cases hj : j < n <;> simp [hj]
theorem goodTake_spec {E : Nat → Kd} {D : Nat → Nat} {base : Nat → Option Kd} {m : Nat} (h : goodAll3 E D base N 0 (ops.toList.take m) = true) : ∀ i o, i < m → ops[i]? = some o → goodOp3 E D base N i o = true := by
  intro i o hi ho
  have := goodAll3_spec _ 0 h i o (by rw [List.getElem?_take]; rw [if_pos hi]; rw [Array.getElem?_toList]; exact ho)
  rwa [Nat.zero_add] at this
/-- A region that draws its order, its last operations in the order of the text. -/
theorem env_then {id m n : Nat} (Ds : List Nat) (Es : List Kd) (hm : Es.length = m) (hn : ops.size = n) (hmn : m ≤ n) (hg : goodAll3 (fun i => (Es[i]?).getD .any) (fun i => (Ds[i]?).getD (1000 + i)) (look env) N 0 ((strip ops).toList.take m) = true) (hD : ∀ i, i < m → ∀ j, j < m → (Ds[i]?).getD (1000 + i) = (Ds[j]?).getD (1000 + j) → i = j)
    (hl : lateB (strip ops) m [] = true) (he : edgesB (strip ops) = true)
    (hs : ∀ i, i < m → RStep (strip ops) Q (fun i => (Es[i]?).getD .any) (fun i => (Ds[i]?).getD (1000 + i)) (look env) N i) (st : Hold N env w0 a w)
    (hQ : ∀ a' w', Hold N (Ds.zip Es ++ env) w0 a' w' → wpOps Try.prog ops Q (List.range' m (n - m)) a' w') : (Code.region id ops true).wp Try.prog Q a w := by
  have hsz : (strip ops).size = n := by rw [strip_size]; exact hn
  refine wp_region_any (by kernel_rfl) (wpAny_strip _ _ _ _ ?_)
  refine any_then (ops := strip ops) (E := fun i => (Es[i]?).getD .any) (D := fun i => (Ds[i]?).getD (1000 + i)) (base := look env) (N := N) m [] (by omega) (goodTake_spec hg) (fun i j hi hj h => hD i hi j hj h) hs hl he w0 (fun listed a' w' hl s => ?_) ops.size _ a _ ?_ (by simp [strip]) (closed_none _) (fun i h => by cases h) (fun j _ => none_listed _ j) ?_
  · rw [hsz]
    refine wpOps_strip _ _ _ (hQ a' w' ⟨s.size, s.defers, s.world, fun t k hk => ?_⟩)
    rcases look_zip env Ds Es t k hk with ⟨i, h1, h2, h3⟩ | h
    · have := s.done i (by omega) (hl i (by omega))
      simp only [h2, h3, Option.getD_some] at this
      exact this
    · exact s.base t k h
  · unfold cnt
    exact Nat.le_trans (List.countP_le_length) (by simp [strip_size])
  · exact ⟨st.size, st.defers, st.world.trans ((drawn_below w).mono st.world.size), fun t k hk => Kd.keep (st.slots t k hk) (drawn_below w), fun j hj h => by rw [none_listed] at h; cases h⟩
/-- The same, where a move that may come late is taken first. -/
theorem env_then1 {id m n i1 d1 t1 : Nat} {k1 : Kd} (Ds : List Nat) (Es : List Kd) (hm : Es.length = m) (hn : ops.size = n) (hmn : m ≤ n) (hi1 : i1 < m) (hg : goodAll3 (fun i => (Es[i]?).getD .any) (fun i => (Ds[i]?).getD (1000 + i)) (look env) N 0 ((strip ops).toList.take m) = true) (hD : ∀ i, i < m → ∀ j, j < m → (Ds[i]?).getD (1000 + i) = (Ds[j]?).getD (1000 + j) → i = j)
    (hl : lateB (strip ops) m [i1] = true) (he : edgesB (strip ops) = true)
    (hmv : ((strip ops)[i1]?).map (fun o => (o.op, o.dst, o.guard)) = some (.move (.tmp t1), some d1, none)) (hk : look env t1 = some k1) (hE : (Es[i1]?).getD .any = k1) (hDd : (Ds[i1]?).getD (1000 + i1) = d1) (hd1 : d1 < N) (hdb : look env d1 = none)
    (hsel : Region.noSelect (strip ops) = true) (hfree : Region.free .any (strip ops) (Array.replicate n false) i1 = true) (hrd : (Region.ready .any (strip ops) (Array.replicate n false)).contains i1 = true)
    (hs : ∀ i, i < m → RStep (strip ops) Q (fun i => (Es[i]?).getD .any) (fun i => (Ds[i]?).getD (1000 + i)) (look env) N i) (st : Hold N env w0 a w) (hP : ∀ c (t : Option Tmp) v a w, Q (.panic c) (a.put t v) w → Q (.panic c) a w)
    (hQ : ∀ a' w', Hold N (Ds.zip Es ++ env) w0 a' w' → wpOps Try.prog ops Q (List.range' m (n - m)) a' w') : (Code.region id ops true).wp Try.prog Q a w := by
  have hsz : (strip ops).size = n := by rw [strip_size]; exact hn
  cases ho : (strip ops)[i1]? with
  | none => rw [ho] at hmv; cases hmv
  | some o =>
  rw [ho] at hmv
  have hmv := Option.some.inj hmv
  simp only [Prod.mk.injEq] at hmv
  obtain ⟨e1, e2, e3⟩ := hmv
  refine wp_region_any (by kernel_rfl) (wpAny_strip _ _ _ _ ?_)
  have h1n : ops.size = (n - 1) + 1 := by omega
  have hil : i1 < ((Array.replicate n false : Array Bool)).size := by simp; omega
  rw [h1n]
  rw [show Array.replicate (n - 1 + 1) false = Array.replicate n false by rw [show n - 1 + 1 = n by omega]]
  refine wpAny_take (v := a.tmps.getD t1 undef) ho hsel hfree hrd (fun c a w h => hP c _ _ a w h) (.inl ⟨wanted_free e3 _, fun w => by
    obtain ⟨dst, op, ty, pos, after, guard⟩ := o
    have e1' : op = _ := e1
    subst e1'
    rfl⟩) ?_
  have hrm : i1 ∈ Region.ready .any (strip ops) (Array.replicate n false) := by simpa using hrd
  rw [e2]
  refine any_then (ops := strip ops) (E := fun i => (Es[i]?).getD .any) (D := fun i => (Ds[i]?).getD (1000 + i)) (base := look env) (N := N) m [i1] (by omega) (goodTake_spec hg) (fun i j hi hj h => hD i hi j hj h) hs hl he w0 (fun listed a' w' hl s => ?_) (n - 1) _ _ _ ?_ (by simp [strip]; omega) (closed_set (closed_none _) hrm) (fun i h => by
    have : i = i1 := by simpa using h
    subst this
    simp at hil
    simp [hil]) (fun j hj => by rw [getD_set_ne false (by omega)]; exact none_listed _ j) ?_
  · rw [hsz]
    refine wpOps_strip _ _ _ (hQ a' w' ⟨s.size, s.defers, s.world, fun t k hk => ?_⟩)
    rcases look_zip env Ds Es t k hk with ⟨i, h1, h2, h3⟩ | h
    · have := s.done i (by omega) (hl i (by omega))
      simp only [h2, h3, Option.getD_some] at this
      exact this
    · exact s.base t k h
  · have h3 := cnt_set (listed := Array.replicate n false) (n := n) (i := i1) (by omega) (by simp) (by simp at hil; simp [hil])
    have h4 : cnt n (Array.replicate n false) ≤ n := by
      unfold cnt
      exact Nat.le_trans (List.countP_le_length) (by simp)
    rw [hsz]
    omega
  · refine ⟨put_size.trans st.size, st.defers, st.world.trans ((drawn_below w).mono st.world.size), fun t k hk' => ?_, fun j hj h => ?_⟩
    · rw [put_other (fun e => by subst e; rw [hk'] at hdb; cases hdb)]
      exact Kd.keep (st.slots t k hk') (drawn_below w)
    · by_cases hj1 : j = i1
      · subst hj1
        show ((Es[j]?).getD .any).R _ _
        rw [hE]
        show k1.R ((a.put (some d1) _).tmps.getD ((Ds[j]?).getD (1000 + j)) undef) _
        rw [hDd, put_self (by rw [st.size]; exact hd1)]
        exact Kd.keep (st.slots t1 k1 hk) (drawn_below w)
      · rw [getD_set_ne false (Ne.symm hj1), none_listed] at h
        cases h
/-- The same, where two moves that may come late are taken first. -/
theorem env_then2 {id m n i1 d1 t1 i2 d2 t2 : Nat} {k1 k2 : Kd} (Ds : List Nat) (Es : List Kd) (hm : Es.length = m) (hn : ops.size = n) (hmn : m ≤ n) (hi1 : i1 < m) (hi2 : i2 < m) (hne : i1 ≠ i2) (hg : goodAll3 (fun i => (Es[i]?).getD .any) (fun i => (Ds[i]?).getD (1000 + i)) (look env) N 0 ((strip ops).toList.take m) = true) (hD : ∀ i, i < m → ∀ j, j < m → (Ds[i]?).getD (1000 + i) = (Ds[j]?).getD (1000 + j) → i = j)
    (hl : lateB (strip ops) m [i1, i2] = true) (he : edgesB (strip ops) = true)
    (hmv : ((strip ops)[i1]?).map (fun o => (o.op, o.dst, o.guard)) = some (.move (.tmp t1), some d1, none)) (hk : look env t1 = some k1) (hE : (Es[i1]?).getD .any = k1) (hDd : (Ds[i1]?).getD (1000 + i1) = d1) (hd1 : d1 < N) (hdb : look env d1 = none)
    (hmv2 : ((strip ops)[i2]?).map (fun o => (o.op, o.dst, o.guard)) = some (.move (.tmp t2), some d2, none)) (hk2 : look env t2 = some k2) (hE2 : (Es[i2]?).getD .any = k2) (hDd2 : (Ds[i2]?).getD (1000 + i2) = d2) (hd2 : d2 < N) (hdb2 : look env d2 = none) (hdt : t2 ≠ d1) (hdd : d1 ≠ d2)
    (hsel : Region.noSelect (strip ops) = true) (hfree : Region.free .any (strip ops) (Array.replicate n false) i1 = true) (hrd : (Region.ready .any (strip ops) (Array.replicate n false)).contains i1 = true)
    (hfree2 : Region.free .any (strip ops) ((Array.replicate n false).setIfInBounds i1 true) i2 = true) (hrd2 : (Region.ready .any (strip ops) ((Array.replicate n false).setIfInBounds i1 true)).contains i2 = true)
    (hs : ∀ i, i < m → RStep (strip ops) Q (fun i => (Es[i]?).getD .any) (fun i => (Ds[i]?).getD (1000 + i)) (look env) N i) (st : Hold N env w0 a w) (hP : ∀ c (t : Option Tmp) v a w, Q (.panic c) (a.put t v) w → Q (.panic c) a w)
    (hQ : ∀ a' w', Hold N (Ds.zip Es ++ env) w0 a' w' → wpOps Try.prog ops Q (List.range' m (n - m)) a' w') : (Code.region id ops true).wp Try.prog Q a w := by
  have hsz : (strip ops).size = n := by rw [strip_size]; exact hn
  cases ho : (strip ops)[i1]? with
  | none => rw [ho] at hmv; cases hmv
  | some o =>
  cases ho2 : (strip ops)[i2]? with
  | none => rw [ho2] at hmv2; cases hmv2
  | some o2 =>
  rw [ho] at hmv
  rw [ho2] at hmv2
  have hmv := Option.some.inj hmv
  have hmv2 := Option.some.inj hmv2
  simp only [Prod.mk.injEq] at hmv hmv2
  obtain ⟨e1, e2, e3⟩ := hmv
  obtain ⟨f1, f2, f3⟩ := hmv2
  refine wp_region_any (by kernel_rfl) (wpAny_strip _ _ _ _ ?_)
  have h1n : ops.size = (n - 2) + 1 + 1 := by omega
  have hil : i1 < ((Array.replicate n false : Array Bool)).size := by simp; omega
  have hil2 : i2 < ((Array.replicate n false : Array Bool)).size := by simp; omega
  rw [h1n]
  rw [show Array.replicate (n - 2 + 1 + 1) false = Array.replicate n false by rw [show n - 2 + 1 + 1 = n by omega]]
  refine wpAny_take (v := a.tmps.getD t1 undef) ho hsel hfree hrd (fun c a w h => hP c _ _ a w h) (.inl ⟨wanted_free e3 _, fun w => by
    obtain ⟨dst, op, ty, pos, after, guard⟩ := o
    have e1' : op = _ := e1
    subst e1'
    rfl⟩) ?_
  have hrm : i1 ∈ Region.ready .any (strip ops) (Array.replicate n false) := by simpa using hrd
  rw [e2]
  refine wpAny_take (v := (a.put (some d1) (a.tmps.getD t1 undef)).tmps.getD t2 undef) ho2 hsel hfree2 hrd2 (fun c a w h => hP c _ _ a w h) (.inl ⟨wanted_free f3 _, fun w => by
    obtain ⟨dst, op, ty, pos, after, guard⟩ := o2
    have f1' : op = _ := f1
    subst f1'
    rfl⟩) ?_
  have hrm2 : i2 ∈ Region.ready .any (strip ops) ((Array.replicate n false).setIfInBounds i1 true) := by simpa using hrd2
  rw [f2]
  have hls : ((Array.replicate n false : Array Bool).setIfInBounds i1 true).size = n := by simp
  have hun2 : ((Array.replicate n false : Array Bool).setIfInBounds i1 true).getD i2 true = false := (mem_ready.1 hrm2).1
  refine any_then (ops := strip ops) (E := fun i => (Es[i]?).getD .any) (D := fun i => (Ds[i]?).getD (1000 + i)) (base := look env) (N := N) m [i1, i2] (by omega) (goodTake_spec hg) (fun i j hi hj h => hD i hi j hj h) hs hl he w0 (fun listed a' w' hl s => ?_) (n - 2) _ _ _ ?_ (by simp [strip]; omega) (closed_set (closed_set (closed_none _) hrm) hrm2) (fun i h => by
    have hi : i = i1 ∨ i = i2 := by simpa using h
    rcases hi with hi | hi
    · subst hi
      refine getD_set_true ?_
      simp at hil
      simp [hil]
    · subst hi
      simp at hil2
      simp [hil2]) (fun j hj => by rw [getD_set_ne false (by omega), getD_set_ne false (by omega)]; exact none_listed _ j) ?_
  · rw [hsz]
    refine wpOps_strip _ _ _ (hQ a' w' ⟨s.size, s.defers, s.world, fun t k hk => ?_⟩)
    rcases look_zip env Ds Es t k hk with ⟨i, h1, h2, h3⟩ | h
    · have := s.done i (by omega) (hl i (by omega))
      simp only [h2, h3, Option.getD_some] at this
      exact this
    · exact s.base t k h
  · have h3 := cnt_set (listed := Array.replicate n false) (n := n) (i := i1) (by omega) (by simp) (by simp at hil; simp [hil])
    have h5 := cnt_set (listed := (Array.replicate n false).setIfInBounds i1 true) (n := n) (i := i2) (by omega) hls hun2
    have h4 : cnt n (Array.replicate n false) ≤ n := by
      unfold cnt
      exact Nat.le_trans (List.countP_le_length) (by simp)
    rw [hsz]
    omega
  · have hD1 : d1 < a.tmps.size := by rw [st.size]; exact hd1
    refine ⟨put_size.trans (put_size.trans st.size), st.defers, st.world.trans ((drawn_below w).mono st.world.size), fun t k hk' => ?_, fun j hj h => ?_⟩
    · rw [put_other (fun e => by subst e; rw [hk'] at hdb2; cases hdb2), put_other (fun e => by subst e; rw [hk'] at hdb; cases hdb)]
      exact Kd.keep (st.slots t k hk') (drawn_below w)
    · by_cases hj2 : j = i2
      · subst hj2
        show ((Es[j]?).getD .any).R _ _
        rw [hE2]
        show k2.R (((a.put (some d1) _).put (some d2) _).tmps.getD ((Ds[j]?).getD (1000 + j)) undef) _
        rw [hDd2, put_self (by rw [put_size, st.size]; exact hd2), put_other hdt]
        exact Kd.keep (st.slots t2 k2 hk2) (drawn_below w)
      · rw [getD_set_ne false (Ne.symm hj2)] at h
        by_cases hj1 : j = i1
        · subst hj1
          show ((Es[j]?).getD .any).R _ _
          rw [hE]
          show k1.R (((a.put (some d1) _).put (some d2) _).tmps.getD ((Ds[j]?).getD (1000 + j)) undef) _
          rw [hDd, put_other hdd, put_self hD1]
          exact Kd.keep (st.slots t1 k1 hk) (drawn_below w)
        · rw [getD_set_ne false (Ne.symm hj1), none_listed] at h
          cases h
end
end Go.Proofs.Ytapcnehpechkpaa
