/-
  A region that draws its order, where some of its edges bind in one of the two orders only.
-/
import Derived.Test.YtapcnehpechkpaaEnv
namespace Go.Proofs.Ytapcnehpechkpaa
set_option linter.unusedVariables false
set_option linter.unusedSimpArgs false
set_option maxRecDepth 100000
open Go.RowKit
section
variable {ops : Array Oper} {Q : Exit → Act → World → Prop} {N : Nat} {env : Env} {w0 w : World} {a : Act}
/-- An operation with the edges alone that bind in both orders. -/
def stripO (o : Oper) : Oper := { o with after := o.after.filter fun e => Region.binds .any e }
def strip (ops : Array Oper) : Array Oper := ops.map stripO
theorem strip_size (ops : Array Oper) : (strip ops).size = ops.size := by simp [strip]
theorem strip_at (ops : Array Oper) (i : Nat) : (strip ops)[i]? = (ops[i]?).map stripO := by simp [strip]
theorem strip_ready (ops : Array Oper) (listed : Array Bool) : Region.ready .any (strip ops) listed = Region.ready .any ops listed := by
  unfold Region.ready
  rw [strip_size]
  refine List.filter_congr fun i _ => ?_
  rw [strip_at]
  cases ops[i]? with
  | none => rfl
  | some o =>
    simp only [Option.map_some, Option.getD_some]
    congr 1
    show (o.after.filter fun e => Region.binds .any e).all _ = o.after.all _
    rw [Bool.eq_iff_iff, Array.all_eq_true', Array.all_eq_true']
    constructor
    · intro h e he
      cases hb : Region.binds .any e with
      | false => rfl
      | true => have := h e (Array.mem_filter.2 ⟨he, hb⟩); rwa [hb] at this
    · intro h e he
      exact h e (Array.mem_filter.1 he).1
theorem strip_yielded (ops : Array Oper) (tmps : Array Value) : yielded (strip ops) tmps = yielded ops tmps := by
  funext j
  unfold yielded
  rw [strip_at]
  cases ops[j]? <;> rfl
theorem wpAny_strip : ∀ (fuel : Nat) (listed : Array Bool) (a : Act) (w : World), wpAny Try.prog .any (strip ops) Q fuel listed a w → wpAny Try.prog .any ops Q fuel listed a w
  | 0, listed, a, w, h => by
    unfold wpAny at *
    rw [strip_ready] at h
    exact h
  | fuel + 1, listed, a, w, h => by
    unfold wpAny at *
    rw [strip_ready] at h
    refine ⟨h.1, fun i hi => ?_⟩
    have h1 := h.2 i hi
    unfold wpOp at *
    rw [strip_at, strip_yielded] at h1
    cases ho : ops[i]? with
    | none => rw [ho] at h1; exact wpAny_strip fuel _ _ _ h1
    | some o =>
      rw [ho] at h1
      simp only [Option.map_some] at h1
      have hw : Region.wanted (stripO o) (yielded ops a.tmps) = Region.wanted o (yielded ops a.tmps) := rfl
      rw [hw] at h1
      by_cases hx : Region.wanted o (yielded ops a.tmps) = true
      · rw [if_pos hx] at h1
        show if _ then _ else _
        rw [if_pos hx]
        rcases h1 with h1 | h1
        · exact .inl (Oper.wp_mono (fun a w h => wpAny_strip fuel _ a w h) (show o.wp Try.prog a w _ Q from h1))
        · exact .inr h1
      · rw [if_neg hx] at h1
        show if _ then _ else _
        rw [if_neg hx]
        exact wpAny_strip fuel _ _ _ h1
/-- A region that draws its order. -/
theorem env_any4 {id : Nat} (Ds : List Nat) (Es : List Kd) (hsz : ops.size = Es.length) (hg : goodAll3 (fun i => (Es[i]?).getD .any) (fun i => (Ds[i]?).getD (1000 + i)) (look env) N 0 (strip ops).toList = true) (hD : ∀ i, i < Es.length → ∀ j, j < Es.length → (Ds[i]?).getD (1000 + i) = (Ds[j]?).getD (1000 + j) → i = j)
    (hs : ∀ i, i < Es.length → RStep (strip ops) Q (fun i => (Es[i]?).getD .any) (fun i => (Ds[i]?).getD (1000 + i)) (look env) N i) (st : Hold N env w0 a w)
    (hQ : ∀ a' w', Hold N (Ds.zip Es ++ env) w0 a' w' → Q .normal a' w') : (Code.region id ops true).wp Try.prog Q a w := by
  have hsz' : (strip ops).size = Es.length := by rw [strip_size]; exact hsz
  refine wp_region_any (by kernel_rfl) (wpAny_strip _ _ _ _ ?_)
  refine any_steps (ops := strip ops) (E := fun i => (Es[i]?).getD .any) (D := fun i => (Ds[i]?).getD (1000 + i)) (base := look env) (N := N) (fun i o ho => ?_) (fun i j hi hj he => hD i (by omega) j (by omega) he) (fun i hi => hs i (by omega)) w0 (fun listed a' w' hl s => ?_) ops.size _ a _ ?_ (by simp [strip]) ?_
  · have := goodAll3_spec _ 0 hg i o (by rw [Array.getElem?_toList]; exact ho)
    rwa [Nat.zero_add] at this
  · refine hQ a' w' ⟨s.size, s.defers, s.world, fun t k hk => ?_⟩
    rcases look_zip env Ds Es t k hk with ⟨i, h1, h2, h3⟩ | h
    · have := s.done i (by omega) (hl i (by omega))
      simp only [h2, h3, Option.getD_some] at this
      exact this
    · exact s.base t k h
  · unfold cnt
    exact Nat.le_trans (List.countP_le_length) (by simp [strip_size])
  · have hb : Below w.heap.size w { w with drawn := w.drawn + 1 } := ⟨rfl, rfl, rfl, Nat.le_refl _, fun _ _ => rfl⟩
    refine ⟨st.size, st.defers, st.world.trans (hb.mono st.world.size), fun t k hk => Kd.keep (st.slots t k hk) hb, fun j hj hl => ?_⟩
    rw [strip_size] at hj
    simp [hj] at hl

end
end Go.Proofs.Ytapcnehpechkpaa
