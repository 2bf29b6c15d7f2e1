/-
  TermValid and TermAlike answer true.
-/
import Derived.Test.YtmljkhofahgelaaClasses2
namespace Go.Proofs.Ytmljkhofahgelaa
set_option linter.unusedVariables false
set_option linter.unusedSimpArgs false
open Go.RowKit

noncomputable def lv0Ops : Array Oper := ((Try.f3.body).bind (findReg 0)).getD #[]
def lv0E (p : Pay) (l : Fo) (i : Nat) : Kd := (([
  .ptrT p l,
  .val (.bool false)] : List Kd)[i]?).getD .any
def lv0D (i : Nat) : Nat := (([1, 2] : List Nat)[i]?).getD (1000 + i)
def lv0B (p : Pay) (l : Fo) (t : Nat) : Option Kd := if t = 0 then some (.term p l) else none
theorem lv0_0 {Q : Exit → Act → World → Prop} (p : Pay) (l : Fo)  : Step Try.prog lv0Ops Q (lv0E p l) lv0D (lv0B p l) 18 0 := step_box (by kernel_rfl) (Opd.of_base 0 rfl) rfl
theorem lv0_1 {Q : Exit → Act → World → Prop} (p : Pay) (l : Fo)  : Step Try.prog lv0Ops Q (lv0E p l) lv0D (lv0B p l) 18 1 := step_assign (by kernel_rfl) (Opd.const _) rfl
set_option maxHeartbeats 1000000 in
theorem lv0_region {Q : Exit → Act → World → Prop} (p : Pay) (l : Fo)  {a : Act} {w : World} (hsize : a.tmps.size = 18) (hdef : a.defers = []) (hb0 : (Kd.term p l).R (a.tmps.getD 0 undef) w)
    (hQ : ∀ a' w', a'.tmps.size = 18 → a'.defers = [] → Below w.heap.size w w' → (Kd.ptrT p l).R (a'.tmps.getD 1 undef) w' → Q .normal a' w') : (Code.region 0 lv0Ops false).wp Try.prog Q a w := by
  have hbase : ∀ t kd, lv0B p l t = some kd → kd.R (a.tmps.getD t undef) w := by
    intro t kd h
    by_cases e0 : t = 0
    · subst e0
      exact (Option.some.inj (show some (Kd.term p l) = some kd from h)) ▸ hb0
    · exfalso
      unfold lv0B at h
      rw [if_neg e0] at h
      cases h
  refine region_seq (w0 := w) 2 (by kernel_rfl) ?_
  rw [show List.range 2 = [0, 1] from rfl]
  have st : Sq (lv0E p l) lv0D (lv0B p l) 18 w 0 a w := ⟨hsize, hdef, Below.refl _ _, hbase, fun j hj => absurd hj (by omega)⟩
  clear hsize hdef hbase hb0
  refine seq_one (lv0_0 p l ) (by kernel_rfl) st ?_
  clear st
  intro a' w' st
  refine seq_one (lv0_1 p l ) (by kernel_rfl) st ?_
  clear st
  intro a' w' st
  exact hQ a' w' st.size st.defers st.world (st.done 0 (by omega))

noncomputable def lv1Ops : Array Oper := ((Try.f3.body).bind (findReg 1)).getD #[]
def lv1E (p : Pay) (l : Fo) (i : Nat) : Kd := (([
  .term p l,
  .val (.bool (Tm.validB p l)),
  .term p l,
  .val (.bool (Tm.validB p l)),
  .val (.bool true),
  .val (.bool true),
  .term p l,
  .val (.int .i64 ((Tm.sizeB l : Nat) : Int)),
  .term p l,
  .val (.int .i64 ((Tm.sizeB l : Nat) : Int)),
  .val (.bool true),
  .val (.bool true),
  .val (.bool true),
  .val (.bool true),
  .val (.bool true),
  .val (.bool true)] : List Kd)[i]?).getD .any
def lv1D (i : Nat) : Nat := (([3, 4, 5, 6, 7, 8, 9, 10, 11, 12, 13, 14, 15, 16, 17, 2] : List Nat)[i]?).getD (1000 + i)
def lv1B (p : Pay) (l : Fo) (t : Nat) : Option Kd := if t = 1 then some (.ptrT p l) else none
theorem lv1_0 {Q : Exit → Act → World → Prop} (p : Pay) (l : Fo)  : Step Try.prog lv1Ops Q (lv1E p l) lv1D (lv1B p l) 18 0 := step_load_term (by kernel_rfl) (Opd.of_base 1 rfl) rfl
theorem lv1_1 {Q : Exit → Act → World → Prop} (p : Pay) (l : Fo)  : Step Try.prog lv1Ops Q (lv1E p l) lv1D (lv1B p l) 18 1 := step_valid (by kernel_rfl) (Opd.dep 0 rfl rfl (by kernel_rfl)) rfl rfl
theorem lv1_2 {Q : Exit → Act → World → Prop} (p : Pay) (l : Fo)  : Step Try.prog lv1Ops Q (lv1E p l) lv1D (lv1B p l) 18 2 := step_load_term (by kernel_rfl) (Opd.of_base 1 rfl) rfl
theorem lv1_3 {Q : Exit → Act → World → Prop} (p : Pay) (l : Fo)  : Step Try.prog lv1Ops Q (lv1E p l) lv1D (lv1B p l) 18 3 := step_rvalid (by kernel_rfl) (Opd.dep 2 rfl rfl (by kernel_rfl)) rfl rfl
theorem lv1_4 {Q : Exit → Act → World → Prop} (p : Pay) (l : Fo)  : Step Try.prog lv1Ops Q (lv1E p l) lv1D (lv1B p l) 18 4 := step_eq_bool (by kernel_rfl) (Opd.dep 1 rfl rfl (by kernel_rfl)) (Opd.dep 3 rfl rfl (by kernel_rfl)) rfl
theorem lv1_5 {Q : Exit → Act → World → Prop} (p : Pay) (l : Fo)  : Step Try.prog lv1Ops Q (lv1E p l) lv1D (lv1B p l) 18 5 := step_move (by kernel_rfl) (Opd.dep 4 rfl rfl (by kernel_rfl)) rfl
theorem lv1_6 {Q : Exit → Act → World → Prop} (p : Pay) (l : Fo)  : Step Try.prog lv1Ops Q (lv1E p l) lv1D (lv1B p l) 18 6 := step_load_term (by kernel_rfl) (Opd.of_base 1 rfl) rfl
theorem lv1_7 {Q : Exit → Act → World → Prop} (p : Pay) (l : Fo)  : Step Try.prog lv1Ops Q (lv1E p l) lv1D (lv1B p l) 18 7 := step_size (by kernel_rfl) (Opd.dep 6 rfl rfl (by kernel_rfl)) rfl rfl
theorem lv1_8 {Q : Exit → Act → World → Prop} (p : Pay) (l : Fo)  : Step Try.prog lv1Ops Q (lv1E p l) lv1D (lv1B p l) 18 8 := step_load_term (by kernel_rfl) (Opd.of_base 1 rfl) rfl
theorem lv1_9 {Q : Exit → Act → World → Prop} (p : Pay) (l : Fo)  : Step Try.prog lv1Ops Q (lv1E p l) lv1D (lv1B p l) 18 9 := step_rsize (by kernel_rfl) (Opd.dep 8 rfl rfl (by kernel_rfl)) rfl rfl
theorem lv1_10 {Q : Exit → Act → World → Prop} (p : Pay) (l : Fo)  : Step Try.prog lv1Ops Q (lv1E p l) lv1D (lv1B p l) 18 10 := step_eqs_int (by kernel_rfl) (Opd.dep 7 rfl rfl (by kernel_rfl)) (Opd.dep 9 rfl rfl (by kernel_rfl)) rfl
theorem lv1_11 {Q : Exit → Act → World → Prop} (p : Pay) (l : Fo)  : Step Try.prog lv1Ops Q (lv1E p l) lv1D (lv1B p l) 18 11 := step_pick (by kernel_rfl) (Opd.dep 5 rfl rfl (by kernel_rfl)) (Opd.dep 10 rfl rfl (by kernel_rfl)) rfl
theorem lv1_12 {Q : Exit → Act → World → Prop} (p : Pay) (l : Fo)  : Step Try.prog lv1Ops Q (lv1E p l) lv1D (lv1B p l) 18 12 := step_move (by kernel_rfl) (Opd.dep 11 rfl rfl (by kernel_rfl)) rfl
theorem lv1_13 {Q : Exit → Act → World → Prop} (p : Pay) (l : Fo)  : Step Try.prog lv1Ops Q (lv1E p l) lv1D (lv1B p l) 18 13 := step_awake (by kernel_rfl) rfl
theorem lv1_14 {Q : Exit → Act → World → Prop} (p : Pay) (l : Fo)  : Step Try.prog lv1Ops Q (lv1E p l) lv1D (lv1B p l) 18 14 := step_pick (by kernel_rfl) (Opd.dep 12 rfl rfl (by kernel_rfl)) (Opd.dep 13 rfl rfl (by kernel_rfl)) rfl
theorem lv1_15 {Q : Exit → Act → World → Prop} (p : Pay) (l : Fo)  : Step Try.prog lv1Ops Q (lv1E p l) lv1D (lv1B p l) 18 15 := step_assign (by kernel_rfl) (Opd.dep 14 rfl rfl (by kernel_rfl)) rfl
set_option maxHeartbeats 1000000 in
theorem lv1_region {Q : Exit → Act → World → Prop} (p : Pay) (l : Fo)  {a : Act} {w : World} (hsize : a.tmps.size = 18) (hdef : a.defers = []) (hb1 : (Kd.ptrT p l).R (a.tmps.getD 1 undef) w)
    (hQ : ∀ a' w', a'.tmps.size = 18 → a'.defers = [] → Below w.heap.size w w' → (Kd.val (.bool true)).R (a'.tmps.getD 2 undef) w' → Q .normal a' w') : (Code.region 1 lv1Ops true).wp Try.prog Q a w := by
  have hbase : ∀ t kd, lv1B p l t = some kd → kd.R (a.tmps.getD t undef) w := by
    intro t kd h
    by_cases e1 : t = 1
    · subst e1
      exact (Option.some.inj (show some (Kd.ptrT p l) = some kd from h)) ▸ hb1
    · exfalso
      unfold lv1B at h
      rw [if_neg e1] at h
      cases h
  have hall : ∀ i, i < 0 → Step Try.prog lv1Ops Q (lv1E p l) lv1D (lv1B p l) 18 i := fun i hi => absurd hi (by omega)
  have hall := below_succ hall (lv1_0 p l )
  have hall := below_succ hall (lv1_1 p l )
  have hall := below_succ hall (lv1_2 p l )
  have hall := below_succ hall (lv1_3 p l )
  have hall := below_succ hall (lv1_4 p l )
  have hall := below_succ hall (lv1_5 p l )
  have hall := below_succ hall (lv1_6 p l )
  have hall := below_succ hall (lv1_7 p l )
  have hall := below_succ hall (lv1_8 p l )
  have hall := below_succ hall (lv1_9 p l )
  have hall := below_succ hall (lv1_10 p l )
  have hall := below_succ hall (lv1_11 p l )
  have hall := below_succ hall (lv1_12 p l )
  have hall := below_succ hall (lv1_13 p l )
  have hall := below_succ hall (lv1_14 p l )
  have hall := below_succ hall (lv1_15 p l )
  refine region_steps2 (E := lv1E p l) (D := lv1D) (base := lv1B p l) (N := 18) (fun i o ho => ?_) (fun i j hi hj he => ?_) (fun i hi => hall i (by rw [show lv1Ops.size = 16 by kernel_rfl] at hi; exact hi)) hsize hdef hbase fun a' w' st => ?_
  · have hg : goodAll lv1D (lv1B p l) 18 (fun g => (lv1E p l g).isTrue) 0 lv1Ops.toList = true := by kernel_rfl
    have := goodAll_spec _ 0 hg i o (by rw [Array.getElem?_toList]; exact ho)
    rwa [Nat.zero_add] at this
  · rw [show lv1Ops.size = 16 by kernel_rfl] at hi hj
    have hd : ∀ i, i < 16 → ∀ j, j < 16 → lv1D i = lv1D j → i = j := of_decide_eq_true (by kernel_rfl)
    exact hd i hi j hj he
  · rw [show lv1Ops.size = 16 by kernel_rfl] at st
    exact hQ a' w' st.size st.defers st.world (st.done 15 (by omega))

theorem lv_body : Try.f3.body = some (.seq (.region 0 lv0Ops false) (.seq (.region 1 lv1Ops true) .ret)) := by kernel_rfl
theorem law_valid (p : Pay) (l : Fo) (A : Option Addr) (c : Nat) (w : World) (hA : ArgsB w w.heap.size A (Tm.len l) l) :
    Calls Try.prog 3 #[tv p A (Tm.len l) c] w fun e w' => e = .returned (.bool true) ∧ Below w.heap.size w w' := by
  refine calls_of_wp Try.func3 lv_body ?_
  obtain ⟨v, hv⟩ : ∃ v, v = tv p A (Tm.len l) c := ⟨_, rfl⟩
  rw [← hv]
  have hk : (Kd.term p l).R v w := ⟨A, c, hv, hA⟩
  clear hv hA
  have hs : (#[v] ++ Array.replicate (Try.f3.ntmps - #[v].size) undef : Array Value).size = 18 := by kernel_rfl
  have h0 : (#[v] ++ Array.replicate (Try.f3.ntmps - #[v].size) undef : Array Value).getD 0 undef = v := by kernel_rfl
  generalize (#[v] ++ Array.replicate (Try.f3.ntmps - #[v].size) undef : Array Value) = tm at hs h0 ⊢
  refine wp_seq ?_
  refine lv0_region p l hs rfl (by show (Kd.term p l).R (tm.getD 0 undef) w; rw [h0]; exact hk) fun a w1 s1 d1 b1 k1 => ?_
  show Code.wp _ _ _ a w1
  refine wp_seq ?_
  refine lv1_region p l s1 d1 k1 fun a w2 s2 d2 b2 k2 => ?_
  show Code.wp _ _ _ a w2
  exact law_ret rfl k2 d2 ⟨rfl, b1.trans (b2.mono b1.size)⟩

noncomputable def la0Ops : Array Oper := ((Try.f4.body).bind (findReg 0)).getD #[]
def la0E (p : Pay) (l : Fo) (q : Pay) (m : Fo) (i : Nat) : Kd := (([
  .ptrT p l,
  .ptrT q m,
  .val (.bool false)] : List Kd)[i]?).getD .any
def la0D (i : Nat) : Nat := (([2, 3, 4] : List Nat)[i]?).getD (1000 + i)
def la0B (p : Pay) (l : Fo) (q : Pay) (m : Fo) (t : Nat) : Option Kd := if t = 0 then some (.term p l) else if t = 1 then some (.term q m) else none
theorem la0_0 {Q : Exit → Act → World → Prop} (p : Pay) (l : Fo) (q : Pay) (m : Fo)  : Step Try.prog la0Ops Q (la0E p l q m) la0D (la0B p l q m) 24 0 := step_box (by kernel_rfl) (Opd.of_base 0 rfl) rfl
theorem la0_1 {Q : Exit → Act → World → Prop} (p : Pay) (l : Fo) (q : Pay) (m : Fo)  : Step Try.prog la0Ops Q (la0E p l q m) la0D (la0B p l q m) 24 1 := step_box (by kernel_rfl) (Opd.of_base 1 rfl) rfl
theorem la0_2 {Q : Exit → Act → World → Prop} (p : Pay) (l : Fo) (q : Pay) (m : Fo)  : Step Try.prog la0Ops Q (la0E p l q m) la0D (la0B p l q m) 24 2 := step_assign (by kernel_rfl) (Opd.const _) rfl
set_option maxHeartbeats 1000000 in
theorem la0_region {Q : Exit → Act → World → Prop} (p : Pay) (l : Fo) (q : Pay) (m : Fo)  {a : Act} {w : World} (hsize : a.tmps.size = 24) (hdef : a.defers = []) (hb0 : (Kd.term p l).R (a.tmps.getD 0 undef) w) (hb1 : (Kd.term q m).R (a.tmps.getD 1 undef) w)
    (hQ : ∀ a' w', a'.tmps.size = 24 → a'.defers = [] → Below w.heap.size w w' → (Kd.ptrT p l).R (a'.tmps.getD 2 undef) w' → (Kd.ptrT q m).R (a'.tmps.getD 3 undef) w' → Q .normal a' w') : (Code.region 0 la0Ops false).wp Try.prog Q a w := by
  have hbase : ∀ t kd, la0B p l q m t = some kd → kd.R (a.tmps.getD t undef) w := by
    intro t kd h
    by_cases e0 : t = 0
    · subst e0
      exact (Option.some.inj (show some (Kd.term p l) = some kd from h)) ▸ hb0
    by_cases e1 : t = 1
    · subst e1
      exact (Option.some.inj (show some (Kd.term q m) = some kd from h)) ▸ hb1
    · exfalso
      unfold la0B at h
      rw [if_neg e0, if_neg e1] at h
      cases h
  refine region_seq (w0 := w) 3 (by kernel_rfl) ?_
  rw [show List.range 3 = [0, 1, 2] from rfl]
  have st : Sq (la0E p l q m) la0D (la0B p l q m) 24 w 0 a w := ⟨hsize, hdef, Below.refl _ _, hbase, fun j hj => absurd hj (by omega)⟩
  clear hsize hdef hbase hb0 hb1
  refine seq_one (la0_0 p l q m ) (by kernel_rfl) st ?_
  clear st
  intro a' w' st
  refine seq_one (la0_1 p l q m ) (by kernel_rfl) st ?_
  clear st
  intro a' w' st
  refine seq_one (la0_2 p l q m ) (by kernel_rfl) st ?_
  clear st
  intro a' w' st
  exact hQ a' w' st.size st.defers st.world (st.done 0 (by omega)) (st.done 1 (by omega))

noncomputable def la1Ops : Array Oper := ((Try.f4.body).bind (findReg 1)).getD #[]
def la1E (p : Pay) (l : Fo) (q : Pay) (m : Fo) (i : Nat) : Kd := (([
  .term p l,
  .term q m,
  .val (.bool (Tm.validB p l && Tm.sameT p l q m)),
  .term p l,
  .term q m,
  .val (.bool (Tm.validB p l && Tm.sameT p l q m)),
  .val (.bool true),
  .val (.bool true),
  .term p l,
  .term q m,
  .val (.bool (Tm.variantB p l q m)),
  .term p l,
  .term q m,
  .val (.bool (Tm.variantB p l q m)),
  .val (.bool true),
  .val (.bool true),
  .val (.bool true),
  .val (.bool true),
  .val (.bool true),
  .val (.bool true)] : List Kd)[i]?).getD .any
def la1D (i : Nat) : Nat := (([5, 6, 7, 8, 9, 10, 11, 12, 13, 14, 15, 16, 17, 18, 19, 20, 21, 22, 23, 4] : List Nat)[i]?).getD (1000 + i)
def la1B (p : Pay) (l : Fo) (q : Pay) (m : Fo) (t : Nat) : Option Kd := if t = 2 then some (.ptrT p l) else if t = 3 then some (.ptrT q m) else none
theorem la1_0 {Q : Exit → Act → World → Prop} (p : Pay) (l : Fo) (q : Pay) (m : Fo)  : Step Try.prog la1Ops Q (la1E p l q m) la1D (la1B p l q m) 24 0 := step_load_term (by kernel_rfl) (Opd.of_base 2 rfl) rfl
theorem la1_1 {Q : Exit → Act → World → Prop} (p : Pay) (l : Fo) (q : Pay) (m : Fo)  : Step Try.prog la1Ops Q (la1E p l q m) la1D (la1B p l q m) 24 1 := step_load_term (by kernel_rfl) (Opd.of_base 3 rfl) rfl
theorem la1_2 {Q : Exit → Act → World → Prop} (p : Pay) (l : Fo) (q : Pay) (m : Fo)  : Step Try.prog la1Ops Q (la1E p l q m) la1D (la1B p l q m) 24 2 := step_same (by kernel_rfl) (Opd.dep 0 rfl rfl (by kernel_rfl)) (Opd.dep 1 rfl rfl (by kernel_rfl)) rfl rfl
theorem la1_3 {Q : Exit → Act → World → Prop} (p : Pay) (l : Fo) (q : Pay) (m : Fo)  : Step Try.prog la1Ops Q (la1E p l q m) la1D (la1B p l q m) 24 3 := step_load_term (by kernel_rfl) (Opd.of_base 2 rfl) rfl
theorem la1_4 {Q : Exit → Act → World → Prop} (p : Pay) (l : Fo) (q : Pay) (m : Fo)  : Step Try.prog la1Ops Q (la1E p l q m) la1D (la1B p l q m) 24 4 := step_load_term (by kernel_rfl) (Opd.of_base 3 rfl) rfl
theorem la1_5 {Q : Exit → Act → World → Prop} (p : Pay) (l : Fo) (q : Pay) (m : Fo)  : Step Try.prog la1Ops Q (la1E p l q m) la1D (la1B p l q m) 24 5 := step_rsame (by kernel_rfl) (Opd.dep 3 rfl rfl (by kernel_rfl)) (Opd.dep 4 rfl rfl (by kernel_rfl)) rfl rfl
theorem la1_6 {Q : Exit → Act → World → Prop} (p : Pay) (l : Fo) (q : Pay) (m : Fo)  : Step Try.prog la1Ops Q (la1E p l q m) la1D (la1B p l q m) 24 6 := step_eq_bool (by kernel_rfl) (Opd.dep 2 rfl rfl (by kernel_rfl)) (Opd.dep 5 rfl rfl (by kernel_rfl)) rfl
theorem la1_7 {Q : Exit → Act → World → Prop} (p : Pay) (l : Fo) (q : Pay) (m : Fo)  : Step Try.prog la1Ops Q (la1E p l q m) la1D (la1B p l q m) 24 7 := step_move (by kernel_rfl) (Opd.dep 6 rfl rfl (by kernel_rfl)) rfl
theorem la1_8 {Q : Exit → Act → World → Prop} (p : Pay) (l : Fo) (q : Pay) (m : Fo)  : Step Try.prog la1Ops Q (la1E p l q m) la1D (la1B p l q m) 24 8 := step_load_term (by kernel_rfl) (Opd.of_base 2 rfl) rfl
theorem la1_9 {Q : Exit → Act → World → Prop} (p : Pay) (l : Fo) (q : Pay) (m : Fo)  : Step Try.prog la1Ops Q (la1E p l q m) la1D (la1B p l q m) 24 9 := step_load_term (by kernel_rfl) (Opd.of_base 3 rfl) rfl
theorem la1_10 {Q : Exit → Act → World → Prop} (p : Pay) (l : Fo) (q : Pay) (m : Fo)  : Step Try.prog la1Ops Q (la1E p l q m) la1D (la1B p l q m) 24 10 := step_variant (by kernel_rfl) (Opd.dep 8 rfl rfl (by kernel_rfl)) (Opd.dep 9 rfl rfl (by kernel_rfl)) rfl rfl
theorem la1_11 {Q : Exit → Act → World → Prop} (p : Pay) (l : Fo) (q : Pay) (m : Fo)  : Step Try.prog la1Ops Q (la1E p l q m) la1D (la1B p l q m) 24 11 := step_load_term (by kernel_rfl) (Opd.of_base 2 rfl) rfl
theorem la1_12 {Q : Exit → Act → World → Prop} (p : Pay) (l : Fo) (q : Pay) (m : Fo)  : Step Try.prog la1Ops Q (la1E p l q m) la1D (la1B p l q m) 24 12 := step_load_term (by kernel_rfl) (Opd.of_base 3 rfl) rfl
theorem la1_13 {Q : Exit → Act → World → Prop} (p : Pay) (l : Fo) (q : Pay) (m : Fo)  : Step Try.prog la1Ops Q (la1E p l q m) la1D (la1B p l q m) 24 13 := step_rvariant (by kernel_rfl) (Opd.dep 11 rfl rfl (by kernel_rfl)) (Opd.dep 12 rfl rfl (by kernel_rfl)) rfl rfl
theorem la1_14 {Q : Exit → Act → World → Prop} (p : Pay) (l : Fo) (q : Pay) (m : Fo)  : Step Try.prog la1Ops Q (la1E p l q m) la1D (la1B p l q m) 24 14 := step_eq_bool (by kernel_rfl) (Opd.dep 10 rfl rfl (by kernel_rfl)) (Opd.dep 13 rfl rfl (by kernel_rfl)) rfl
theorem la1_15 {Q : Exit → Act → World → Prop} (p : Pay) (l : Fo) (q : Pay) (m : Fo)  : Step Try.prog la1Ops Q (la1E p l q m) la1D (la1B p l q m) 24 15 := step_pick (by kernel_rfl) (Opd.dep 7 rfl rfl (by kernel_rfl)) (Opd.dep 14 rfl rfl (by kernel_rfl)) rfl
theorem la1_16 {Q : Exit → Act → World → Prop} (p : Pay) (l : Fo) (q : Pay) (m : Fo)  : Step Try.prog la1Ops Q (la1E p l q m) la1D (la1B p l q m) 24 16 := step_move (by kernel_rfl) (Opd.dep 15 rfl rfl (by kernel_rfl)) rfl
theorem la1_17 {Q : Exit → Act → World → Prop} (p : Pay) (l : Fo) (q : Pay) (m : Fo)  : Step Try.prog la1Ops Q (la1E p l q m) la1D (la1B p l q m) 24 17 := step_awake (by kernel_rfl) rfl
theorem la1_18 {Q : Exit → Act → World → Prop} (p : Pay) (l : Fo) (q : Pay) (m : Fo)  : Step Try.prog la1Ops Q (la1E p l q m) la1D (la1B p l q m) 24 18 := step_pick (by kernel_rfl) (Opd.dep 16 rfl rfl (by kernel_rfl)) (Opd.dep 17 rfl rfl (by kernel_rfl)) rfl
theorem la1_19 {Q : Exit → Act → World → Prop} (p : Pay) (l : Fo) (q : Pay) (m : Fo)  : Step Try.prog la1Ops Q (la1E p l q m) la1D (la1B p l q m) 24 19 := step_assign (by kernel_rfl) (Opd.dep 18 rfl rfl (by kernel_rfl)) rfl
set_option maxHeartbeats 1000000 in
theorem la1_region {Q : Exit → Act → World → Prop} (p : Pay) (l : Fo) (q : Pay) (m : Fo)  {a : Act} {w : World} (hsize : a.tmps.size = 24) (hdef : a.defers = []) (hb2 : (Kd.ptrT p l).R (a.tmps.getD 2 undef) w) (hb3 : (Kd.ptrT q m).R (a.tmps.getD 3 undef) w)
    (hQ : ∀ a' w', a'.tmps.size = 24 → a'.defers = [] → Below w.heap.size w w' → (Kd.val (.bool true)).R (a'.tmps.getD 4 undef) w' → Q .normal a' w') : (Code.region 1 la1Ops true).wp Try.prog Q a w := by
  have hbase : ∀ t kd, la1B p l q m t = some kd → kd.R (a.tmps.getD t undef) w := by
    intro t kd h
    by_cases e2 : t = 2
    · subst e2
      exact (Option.some.inj (show some (Kd.ptrT p l) = some kd from h)) ▸ hb2
    by_cases e3 : t = 3
    · subst e3
      exact (Option.some.inj (show some (Kd.ptrT q m) = some kd from h)) ▸ hb3
    · exfalso
      unfold la1B at h
      rw [if_neg e2, if_neg e3] at h
      cases h
  have hall : ∀ i, i < 0 → Step Try.prog la1Ops Q (la1E p l q m) la1D (la1B p l q m) 24 i := fun i hi => absurd hi (by omega)
  have hall := below_succ hall (la1_0 p l q m )
  have hall := below_succ hall (la1_1 p l q m )
  have hall := below_succ hall (la1_2 p l q m )
  have hall := below_succ hall (la1_3 p l q m )
  have hall := below_succ hall (la1_4 p l q m )
  have hall := below_succ hall (la1_5 p l q m )
  have hall := below_succ hall (la1_6 p l q m )
  have hall := below_succ hall (la1_7 p l q m )
  have hall := below_succ hall (la1_8 p l q m )
  have hall := below_succ hall (la1_9 p l q m )
  have hall := below_succ hall (la1_10 p l q m )
  have hall := below_succ hall (la1_11 p l q m )
  have hall := below_succ hall (la1_12 p l q m )
  have hall := below_succ hall (la1_13 p l q m )
  have hall := below_succ hall (la1_14 p l q m )
  have hall := below_succ hall (la1_15 p l q m )
  have hall := below_succ hall (la1_16 p l q m )
  have hall := below_succ hall (la1_17 p l q m )
  have hall := below_succ hall (la1_18 p l q m )
  have hall := below_succ hall (la1_19 p l q m )
  refine region_steps2 (E := la1E p l q m) (D := la1D) (base := la1B p l q m) (N := 24) (fun i o ho => ?_) (fun i j hi hj he => ?_) (fun i hi => hall i (by rw [show la1Ops.size = 20 by kernel_rfl] at hi; exact hi)) hsize hdef hbase fun a' w' st => ?_
  · have hg : goodAll la1D (la1B p l q m) 24 (fun g => (la1E p l q m g).isTrue) 0 la1Ops.toList = true := by kernel_rfl
    have := goodAll_spec _ 0 hg i o (by rw [Array.getElem?_toList]; exact ho)
    rwa [Nat.zero_add] at this
  · rw [show la1Ops.size = 20 by kernel_rfl] at hi hj
    have hd : ∀ i, i < 20 → ∀ j, j < 20 → la1D i = la1D j → i = j := of_decide_eq_true (by kernel_rfl)
    exact hd i hi j hj he
  · rw [show la1Ops.size = 20 by kernel_rfl] at st
    exact hQ a' w' st.size st.defers st.world (st.done 19 (by omega))

theorem la_body : Try.f4.body = some (.seq (.region 0 la0Ops false) (.seq (.region 1 la1Ops true) .ret)) := by kernel_rfl
theorem law_alike (p : Pay) (l : Fo) (A : Option Addr) (c : Nat) (q : Pay) (m : Fo) (A' : Option Addr) (c' : Nat) (w : World) (hA : ArgsB w w.heap.size A (Tm.len l) l) (hA' : ArgsB w w.heap.size A' (Tm.len m) m) :
    Calls Try.prog 4 #[tv p A (Tm.len l) c, tv q A' (Tm.len m) c'] w fun e w' => e = .returned (.bool true) ∧ Below w.heap.size w w' := by
  refine calls_of_wp Try.func4 la_body ?_
  obtain ⟨v, hv⟩ : ∃ v, v = tv p A (Tm.len l) c := ⟨_, rfl⟩
  obtain ⟨u, hu⟩ : ∃ u, u = tv q A' (Tm.len m) c' := ⟨_, rfl⟩
  rw [← hv, ← hu]
  have hk : (Kd.term p l).R v w := ⟨A, c, hv, hA⟩
  have hk' : (Kd.term q m).R u w := ⟨A', c', hu, hA'⟩
  clear hv hA hu hA'
  have hs : (#[v, u] ++ Array.replicate (Try.f4.ntmps - #[v, u].size) undef : Array Value).size = 24 := by kernel_rfl
  have h0 : (#[v, u] ++ Array.replicate (Try.f4.ntmps - #[v, u].size) undef : Array Value).getD 0 undef = v := by kernel_rfl
  have h1 : (#[v, u] ++ Array.replicate (Try.f4.ntmps - #[v, u].size) undef : Array Value).getD 1 undef = u := by kernel_rfl
  generalize (#[v, u] ++ Array.replicate (Try.f4.ntmps - #[v, u].size) undef : Array Value) = tm at hs h0 h1 ⊢
  refine wp_seq ?_
  refine la0_region p l q m hs rfl (by show (Kd.term p l).R (tm.getD 0 undef) w; rw [h0]; exact hk) (by show (Kd.term q m).R (tm.getD 1 undef) w; rw [h1]; exact hk') fun a w1 s1 d1 b1 k1 k1' => ?_
  show Code.wp _ _ _ a w1
  refine wp_seq ?_
  refine la1_region p l q m s1 d1 k1 k1' fun a w2 s2 d2 b2 k2 => ?_
  show Code.wp _ _ _ a w2
  exact law_ret rfl k2 d2 ⟨rfl, b1.trans (b2.mono b1.size)⟩
end Go.Proofs.Ytmljkhofahgelaa
