/-
  A region that draws its order, by what holds whichever operations have come up; its last operations in the order of the text.
-/
import Derived.Test.YtapcnehpechkpaaThen
namespace Go.Proofs.Ytapcnehpechkpaa
set_option linter.unusedVariables false
set_option linter.unusedSimpArgs false
set_option maxRecDepth 100000
open Go.RowKit
section
variable {ops : Array Oper} {Q : Exit → Act → World → Prop}
theorem any_inv (m : Nat) (hm : m ≤ ops.size) (hlate : lateB ops m [] = true) (hed : edgesB ops = true) (I : (Nat → Bool) → Act → World → Prop)
    (hstep : ∀ (L : Nat → Bool) (a : Act) (w : World) (i : Nat) (o : Oper), i < m → ops[i]? = some o → L i = false → (∀ e ∈ o.after, Region.binds .any e = true → L e.on = true) → I L a w → wpOp Try.prog ops Q i (fun a' w' => I (fun j => if j = i then true else L j) a' w') a w)
    (hQ : ∀ (L : Nat → Bool) (a : Act) (w : World), (∀ j, j < m → L j = true) → I L a w → wpOps Try.prog ops Q (List.range' m (ops.size - m)) a w) :
    ∀ (fuel : Nat) (listed : Array Bool) (a : Act) (w : World), cnt ops.size listed ≤ fuel → listed.size = ops.size → Closed ops listed → (∀ j, m ≤ j → listed.getD j false = false) → I (fun j => listed.getD j false) a w → wpAny Try.prog .any ops Q fuel listed a w := by
  intro fuel
  induction fuel with
  | zero =>
    intro listed a w hc hl hcl hno st
    by_cases hfull : ∀ j, j < m → listed.getD j false = true
    · exact any_chain hlate hed (ops.size - m) m 0 listed a w (by omega) (Nat.le_refl _) hl hcl hfull hno (fun i h => by cases h) hc (hQ _ a w hfull st)
    · exfalso
      apply hfull
      intro j hj
      cases hb : listed.getD j false with
      | true => rfl
      | false =>
        have := cnt_pos (n := ops.size) (i := j) (listed := listed) (by omega) (by rw [getD_true_of_lt (by omega)]; exact hb)
        omega
  | succ fuel ih =>
    intro listed a w hc hl hcl hno st
    by_cases hfull : ∀ j, j < m → listed.getD j false = true
    · exact any_chain hlate hed (ops.size - m) m (fuel + 1) listed a w (by omega) (Nat.le_refl _) hl hcl hfull hno (fun i h => by cases h) hc (hQ _ a w hfull st)
    have hready : ∀ i, i ∈ Region.ready .any ops listed → i < m := by
      intro i hi
      rcases Nat.lt_or_ge i m with h | h
      · exact h
      · exfalso
        apply hfull
        intro j hj
        obtain ⟨hun, o, ho, hd⟩ := mem_ready.1 hi
        have hil : i < ops.size := (Array.getElem?_eq_some_iff.1 ho).1
        rcases lateB_spec hlate hil h (show j < i by omega) with h3 | h3
        · cases h3
        · exact waits_spec hcl 12 i j o ho hd h3
    have hsome : Region.ready .any ops listed ≠ [] := by
      intro hr
      apply hfull
      intro j
      induction j using Nat.strongRecOn with
      | ind j ihj =>
        intro hj
        cases hb : listed.getD j false with
        | true => rfl
        | false =>
          exfalso
          have ho : ops[j]? = some ops[j] := Array.getElem?_eq_getElem (by omega)
          have hmem : j ∈ Region.ready .any ops listed := mem_ready.2 ⟨by rw [getD_true_of_lt (by omega)]; exact hb, ops[j], ho, fun e he hbind => by
            have h1 := edgesB_spec hed ho e he hbind
            exact ihj e.on h1 (Nat.lt_trans h1 hj)⟩
          rw [hr] at hmem
          cases hmem
    refine ⟨fun hr => absurd hr hsome, fun i hi => ?_⟩
    have him := hready i hi
    obtain ⟨hun, o, ho, hdep⟩ := mem_ready.1 hi
    have hlt : i < ops.size := (Array.getElem?_eq_some_iff.1 ho).1
    have hif : listed.getD i false = false := by rw [← getD_true_of_lt (by omega)]; exact hun
    refine wpOp_mono (fun a' w' h => ih _ a' w' (by have := cnt_set hlt hl hun; omega) (by simpa using hl) (closed_set hcl hi) (fun j hj => by rw [getD_set_ne false (by omega)]; exact hno j hj) ?_) (hstep (fun j => listed.getD j false) a w i o him ho hif hdep st)
    have he : (fun j => if j = i then true else listed.getD j false) = fun j => (listed.setIfInBounds i true).getD j false := by
      funext j
      by_cases hji : j = i
      · subst hji
        have : j < listed.size := by omega
        simp [this]
      · rw [if_neg hji, getD_set_ne false (Ne.symm hji)]
    rw [← he]
    exact h
/-- A region that draws its order, by an invariant. -/
theorem region_inv {id n m : Nat} {a : Act} {w : World} (hn : ops.size = n) (hm : m ≤ n) (hlate : lateB ops m [] = true) (hed : edgesB ops = true) (I : (Nat → Bool) → Act → World → Prop)
    (h0 : I (fun _ => false) a { w with drawn := w.drawn + 1 })
    (hstep : ∀ (L : Nat → Bool) (a : Act) (w : World) (i : Nat) (o : Oper), i < m → ops[i]? = some o → L i = false → (∀ e ∈ o.after, Region.binds .any e = true → L e.on = true) → I L a w → wpOp Try.prog ops Q i (fun a' w' => I (fun j => if j = i then true else L j) a' w') a w)
    (hQ : ∀ (L : Nat → Bool) (a : Act) (w : World), (∀ j, j < m → L j = true) → I L a w → wpOps Try.prog ops Q (List.range' m (n - m)) a w) : (Code.region id ops true).wp Try.prog Q a w := by
  subst hn
  refine wp_region_any (by kernel_rfl) (any_inv m hm hlate hed I hstep hQ ops.size _ a _ ?_ (by simp) (closed_none _) (fun j _ => none_listed _ j) ?_)
  · unfold cnt
    exact Nat.le_trans (List.countP_le_length) (by simp)
  · have he : (fun j => (Array.replicate ops.size false).getD j false) = fun _ => false := by funext j; exact none_listed _ j
    rw [he]
    exact h0
/-- An operation that has no guard. -/
theorem wpOp_one {i : Nat} {o : Oper} {K : Act → World → Prop} {a : Act} {w : World} (ho : ops[i]? = some o) (hg : o.guard = none) (h : o.wp Try.prog a w K Q) : wpOp Try.prog ops Q i K a w := by
  unfold wpOp
  rw [ho]
  simp only [wanted_free hg, if_true]
  exact .inl h
end
end Go.Proofs.Ytapcnehpechkpaa
