/-
  TermRenames and TermReplaces answer true.
-/
import Derived.Test.YtmljkhofahgelaaClasses3
namespace Go.Proofs.Ytmljkhofahgelaa
set_option linter.unusedVariables false
set_option linter.unusedSimpArgs false
open Go.RowKit
theorem slots_nil {w : World} {tm : Array Value} : ∀ t k, look [] t = some k → k.R (tm.getD t undef) w := fun t k h => by cases h
theorem slots_cons {w : World} {tm : Array Value} {env : Env} (d : Nat) {k0 : Kd} (h0 : k0.R (tm.getD d undef) w) (h : ∀ t k, look env t = some k → k.R (tm.getD t undef) w) : ∀ t k, look ((d, k0) :: env) t = some k → k.R (tm.getD t undef) w := by
  intro t k hk
  rw [look_cons] at hk
  by_cases e : d = t
  · subst e
    rw [if_pos (by simp)] at hk
    cases hk
    exact h0
  · rw [if_neg (by simpa using e)] at hk
    exact h t k hk
noncomputable def ln0Ops : Array Oper := ((Try.f5.body).bind (findReg 0)).getD #[]
noncomputable def ln1Ops : Array Oper := ((Try.f5.body).bind (findReg 1)).getD #[]
noncomputable def ln2Ops : Array Oper := ((Try.f5.body).bind (findReg 2)).getD #[]
noncomputable def ln3Ops : Array Oper := ((Try.f5.body).bind (findReg 3)).getD #[]
theorem ln_body : Try.f5.body = some (.seq (.region 0 ln0Ops false) (.seq (.region 1 ln1Ops false) (.seq (.region 2 ln2Ops false) (.seq (.region 3 ln3Ops false) .ret)))) := by kernel_rfl
theorem ln0_region {Q : Exit → Act → World → Prop} (p : Pay) (l : Fo) (d : Int)  {w0 : World} {a : Act} {w : World} (h : Hold 32 [(0, .term p l), (1, .val (.int .i64 d))] w0 a w)
    (hQ : ∀ a' w', Hold 32 [(1, .val (.int .i64 d)), (2, .ptrT p l), (4, .val (.bool false))] w0 a' w' → Q .normal a' w') : (Code.region 0 ln0Ops false).wp Try.prog Q a w := by
  refine region_seq (w0 := w) 2 (by kernel_rfl) ?_
  rw [show List.range 2 = [0, 1] from rfl]
  refine env_one (i := 0) (d := 2) (k := .ptrT p l) (step_box (by kernel_rfl) (Opd.of_base 0 rfl) rfl) (by kernel_rfl) (by decide) h ?_
  clear h
  intro a w h
  refine env_one (i := 1) (d := 4) (k := .val (.bool false)) (step_assign (by kernel_rfl) (Opd.const _) rfl) (by kernel_rfl) (by decide) h ?_
  clear h
  intro a w h
  exact hQ a w (h.keep [1, 2, 4])
theorem ln1_region {Q : Exit → Act → World → Prop} (p : Pay) (l : Fo) (d : Int)  {w0 : World} {a : Act} {w : World} (h : Hold 32 [(1, .val (.int .i64 d)), (2, .ptrT p l), (4, .val (.bool false))] w0 a w)
    (hQ : ∀ a' w', Hold 32 [(1, .val (.int .i64 d)), (2, .ptrT p l), (4, .val (.bool false)), (5, .ptrT (Tm.renameOf p l d).1.1 (Tm.renameOf p l d).1.2), (6, .val (.int .i64 (Tm.renameOf p l d).2))] w0 a' w' → Q .normal a' w') : (Code.region 1 ln1Ops false).wp Try.prog Q a w := by
  refine region_seq (w0 := w) 9 (by kernel_rfl) ?_
  rw [show List.range 9 = [0, 1, 2, 3, 4, 5, 6, 7, 8] from rfl]
  refine env_one (i := 0) (d := 10) (k := .term p l) (step_load_term (by kernel_rfl) (Opd.of_base 2 rfl) rfl) (by kernel_rfl) (by decide) h ?_
  clear h
  intro a w h
  refine env_one (i := 1) (d := 11) (k := .val (.int .i64 d)) (step_move (by kernel_rfl) (Opd.of_base 1 rfl) rfl) (by kernel_rfl) (by decide) h ?_
  clear h
  intro a w h
  refine env_one (i := 2) (d := 12) (k := .pair (Tm.renameOf p l d).1.1 (Tm.renameOf p l d).1.2 (Tm.renameOf p l d).2) (step_rename2 (by kernel_rfl) (Opd.of_base 10 rfl) (Opd.of_base 11 rfl) rfl rfl) (by kernel_rfl) (by decide) h ?_
  clear h
  intro a w h
  refine env_one (i := 3) (d := 9) (k := .pair (Tm.renameOf p l d).1.1 (Tm.renameOf p l d).1.2 (Tm.renameOf p l d).2) (step_move (by kernel_rfl) (Opd.of_base 12 rfl) rfl) (by kernel_rfl) (by decide) h ?_
  clear h
  intro a w h
  refine env_one (i := 4) (d := 13) (k := .term (Tm.renameOf p l d).1.1 (Tm.renameOf p l d).1.2) (step_pair0 (by kernel_rfl) (Opd.of_base 9 rfl) rfl) (by kernel_rfl) (by decide) h ?_
  clear h
  intro a w h
  refine env_one (i := 5) (d := 14) (k := .val (.int .i64 (Tm.renameOf p l d).2)) (step_pair1 (by kernel_rfl) (Opd.of_base 9 rfl) rfl) (by kernel_rfl) (by decide) h ?_
  clear h
  intro a w h
  refine env_box (i := 6) (d := 5) (by kernel_rfl) (by decide) (by kernel_rfl) (by decide) (s := 13) rfl h ?_
  clear h
  intro a w h
  refine env_one (i := 8) (d := 6) (k := .val (.int .i64 (Tm.renameOf p l d).2)) (step_assign (by kernel_rfl) (Opd.of_base 14 rfl) rfl) (by kernel_rfl) (by decide) h ?_
  clear h
  intro a w h
  exact hQ a w (h.keep [1, 2, 4, 5, 6])
theorem ln2_region {Q : Exit → Act → World → Prop} (p : Pay) (l : Fo) (d : Int)  {w0 : World} {a : Act} {w : World} (h : Hold 32 [(1, .val (.int .i64 d)), (2, .ptrT p l), (4, .val (.bool false)), (5, .ptrT (Tm.renameOf p l d).1.1 (Tm.renameOf p l d).1.2), (6, .val (.int .i64 (Tm.renameOf p l d).2))] w0 a w)
    (hQ : ∀ a' w', Hold 32 [(1, .val (.int .i64 d)), (2, .ptrT p l), (4, .val (.bool false)), (5, .ptrT (Tm.renameOf p l d).1.1 (Tm.renameOf p l d).1.2), (6, .val (.int .i64 (Tm.renameOf p l d).2)), (7, .ptrT (Tm.renameOf p l d).1.1 (Tm.renameOf p l d).1.2), (8, .val (.int .i64 (Tm.renameOf p l d).2))] w0 a' w' → Q .normal a' w') : (Code.region 2 ln2Ops false).wp Try.prog Q a w := by
  refine region_seq (w0 := w) 9 (by kernel_rfl) ?_
  rw [show List.range 9 = [0, 1, 2, 3, 4, 5, 6, 7, 8] from rfl]
  refine env_one (i := 0) (d := 16) (k := .term p l) (step_load_term (by kernel_rfl) (Opd.of_base 2 rfl) rfl) (by kernel_rfl) (by decide) h ?_
  clear h
  intro a w h
  refine env_one (i := 1) (d := 17) (k := .val (.int .i64 d)) (step_move (by kernel_rfl) (Opd.of_base 1 rfl) rfl) (by kernel_rfl) (by decide) h ?_
  clear h
  intro a w h
  refine env_one (i := 2) (d := 18) (k := .pair (Tm.renameOf p l d).1.1 (Tm.renameOf p l d).1.2 (Tm.renameOf p l d).2) (step_rrename2 (by kernel_rfl) (Opd.of_base 16 rfl) (Opd.of_base 17 rfl) rfl rfl) (by kernel_rfl) (by decide) h ?_
  clear h
  intro a w h
  refine env_one (i := 3) (d := 15) (k := .pair (Tm.renameOf p l d).1.1 (Tm.renameOf p l d).1.2 (Tm.renameOf p l d).2) (step_move (by kernel_rfl) (Opd.of_base 18 rfl) rfl) (by kernel_rfl) (by decide) h ?_
  clear h
  intro a w h
  refine env_one (i := 4) (d := 19) (k := .term (Tm.renameOf p l d).1.1 (Tm.renameOf p l d).1.2) (step_pair0 (by kernel_rfl) (Opd.of_base 15 rfl) rfl) (by kernel_rfl) (by decide) h ?_
  clear h
  intro a w h
  refine env_one (i := 5) (d := 20) (k := .val (.int .i64 (Tm.renameOf p l d).2)) (step_pair1 (by kernel_rfl) (Opd.of_base 15 rfl) rfl) (by kernel_rfl) (by decide) h ?_
  clear h
  intro a w h
  refine env_box (i := 6) (d := 7) (by kernel_rfl) (by decide) (by kernel_rfl) (by decide) (s := 19) rfl h ?_
  clear h
  intro a w h
  refine env_one (i := 8) (d := 8) (k := .val (.int .i64 (Tm.renameOf p l d).2)) (step_assign (by kernel_rfl) (Opd.of_base 20 rfl) rfl) (by kernel_rfl) (by decide) h ?_
  clear h
  intro a w h
  exact hQ a w (h.keep [1, 2, 4, 5, 6, 7, 8])
theorem ln3_region {Q : Exit → Act → World → Prop} (p : Pay) (l : Fo) (d : Int)  {w0 : World} {a : Act} {w : World} (h : Hold 32 [(1, .val (.int .i64 d)), (2, .ptrT p l), (4, .val (.bool false)), (5, .ptrT (Tm.renameOf p l d).1.1 (Tm.renameOf p l d).1.2), (6, .val (.int .i64 (Tm.renameOf p l d).2)), (7, .ptrT (Tm.renameOf p l d).1.1 (Tm.renameOf p l d).1.2), (8, .val (.int .i64 (Tm.renameOf p l d).2))] w0 a w)
    (hQ : ∀ a' w', Hold 32 [(4, .val (.bool true))] w0 a' w' → Q .normal a' w') : (Code.region 3 ln3Ops false).wp Try.prog Q a w := by
  refine region_seq (w0 := w) 12 (by kernel_rfl) ?_
  rw [show List.range 12 = [0, 1, 2, 3, 4, 5, 6, 7, 8, 9, 10, 11] from rfl]
  refine env_one (i := 0) (d := 21) (k := .val (.int .i64 (Tm.renameOf p l d).2)) (step_move (by kernel_rfl) (Opd.of_base 6 rfl) rfl) (by kernel_rfl) (by decide) h ?_
  clear h
  intro a w h
  refine env_one (i := 1) (d := 22) (k := .val (.int .i64 (Tm.renameOf p l d).2)) (step_move (by kernel_rfl) (Opd.of_base 8 rfl) rfl) (by kernel_rfl) (by decide) h ?_
  clear h
  intro a w h
  refine env_one (i := 2) (d := 23) (k := .val (.bool true)) (step_eqs_err (by kernel_rfl) (Opd.of_base 21 rfl) (Opd.of_base 22 rfl) rfl) (by kernel_rfl) (by decide) h ?_
  clear h
  intro a w h
  refine env_one (i := 3) (d := 24) (k := .val (.bool true)) (step_move (by kernel_rfl) (Opd.of_base 23 rfl) rfl) (by kernel_rfl) (by decide) h ?_
  clear h
  intro a w h
  refine env_guard (i := 4) (d := 25) (g := 3) (dg := 24) (b := true) (k := .term (Tm.renameOf p l d).1.1 (Tm.renameOf p l d).1.2) (step_load_term (by kernel_rfl) (Opd.of_base 5 rfl) rfl) (by kernel_rfl) (by decide) (by kernel_rfl) (by decide) rfl h ?_
  clear h
  intro a w h
  refine env_guard (i := 5) (d := 26) (g := 3) (dg := 24) (b := true) (k := .term (Tm.renameOf p l d).1.1 (Tm.renameOf p l d).1.2) (step_load_term (by kernel_rfl) (Opd.of_base 7 rfl) rfl) (by kernel_rfl) (by decide) (by kernel_rfl) (by decide) rfl h ?_
  clear h
  intro a w h
  refine env_guard (i := 6) (d := 27) (g := 3) (dg := 24) (b := true) (k := .val (.bool true)) (step_lsame (by kernel_rfl) (Opd.of_base 25 rfl) (Opd.of_base 26 rfl) (Tm.same_self (Tm.rename_valid p l d)) rfl) (by kernel_rfl) (by decide) (by kernel_rfl) (by decide) rfl h ?_
  clear h
  intro a w h
  refine env_one (i := 7) (d := 28) (k := .val (.bool true)) (step_pick_yes (y := .const (.bool false)) (by kernel_rfl) (Opd.of_base 24 rfl) (Opd.of_base 27 rfl) rfl) (by kernel_rfl) (by decide) h ?_
  clear h
  intro a w h
  refine env_one (i := 8) (d := 29) (k := .val (.bool true)) (step_move (by kernel_rfl) (Opd.of_base 28 rfl) rfl) (by kernel_rfl) (by decide) h ?_
  clear h
  intro a w h
  refine env_guard (i := 9) (d := 30) (g := 8) (dg := 29) (b := true) (k := .val (.bool true)) (step_awake (by kernel_rfl) rfl) (by kernel_rfl) (by decide) (by kernel_rfl) (by decide) rfl h ?_
  clear h
  intro a w h
  refine env_one (i := 10) (d := 31) (k := .val (.bool true)) (step_pick_yes (y := .const (.bool false)) (by kernel_rfl) (Opd.of_base 29 rfl) (Opd.of_base 30 rfl) rfl) (by kernel_rfl) (by decide) h ?_
  clear h
  intro a w h
  refine env_one (i := 11) (d := 4) (k := .val (.bool true)) (step_assign (by kernel_rfl) (Opd.of_base 31 rfl) rfl) (by kernel_rfl) (by decide) h ?_
  clear h
  intro a w h
  exact hQ a w (h.keep [4])
theorem law_renames (p : Pay) (l : Fo) (A : Option Addr) (c : Nat) (d : Int) (w : World) (hA : ArgsB w w.heap.size A (Tm.len l) l) :
    Calls Try.prog 5 #[tv p A (Tm.len l) c, .int .i64 d] w fun e w' => e = .returned (.bool true) ∧ Below w.heap.size w w' := by
  refine calls_of_wp Try.func5 ln_body ?_
  obtain ⟨v0, hv0⟩ : ∃ v : Value, v = tv p A (Tm.len l) c := ⟨_, rfl⟩
  obtain ⟨v1, hv1⟩ : ∃ v : Value, v = .int .i64 d := ⟨_, rfl⟩
  rw [← hv0, ← hv1]
  have hk0 : (Kd.term p l).R v0 w := ⟨A, c, hv0, hA⟩
  have hk1 : (Kd.val (.int .i64 d)).R v1 w := hv1
  have hs : (#[v0, v1] ++ Array.replicate (Try.f5.ntmps - #[v0, v1].size) undef : Array Value).size = 32 := by kernel_rfl
  have g0 : (#[v0, v1] ++ Array.replicate (Try.f5.ntmps - #[v0, v1].size) undef : Array Value).getD 0 undef = v0 := by kernel_rfl
  have g1 : (#[v0, v1] ++ Array.replicate (Try.f5.ntmps - #[v0, v1].size) undef : Array Value).getD 1 undef = v1 := by kernel_rfl
  generalize (#[v0, v1] ++ Array.replicate (Try.f5.ntmps - #[v0, v1].size) undef : Array Value) = tm at hs g0 g1 ⊢
  refine wp_seq ?_
  refine ln0_region p l d (w0 := w) ⟨hs, rfl, Below.refl _ _, (slots_cons 0 (by rw [g0]; exact hk0) (slots_cons 1 (by rw [g1]; exact hk1) slots_nil))⟩ ?_
  intro a w h
  show Code.wp _ _ _ a w
  refine wp_seq ?_
  refine ln1_region p l d h ?_
  intro a w h
  show Code.wp _ _ _ a w
  refine wp_seq ?_
  refine ln2_region p l d h ?_
  intro a w h
  show Code.wp _ _ _ a w
  refine wp_seq ?_
  refine ln3_region p l d h ?_
  intro a w h
  show Code.wp _ _ _ a w
  refine wp_ret ?_
  (try simp only [then_ret, block_ret])
  exact law_fin rfl (h.get 4 rfl) h.defers ⟨rfl, h.world⟩
noncomputable def lp0Ops : Array Oper := ((Try.f6.body).bind (findReg 0)).getD #[]
noncomputable def lp1Ops : Array Oper := ((Try.f6.body).bind (findReg 1)).getD #[]
noncomputable def lp2Ops : Array Oper := ((Try.f6.body).bind (findReg 2)).getD #[]
noncomputable def lp3Ops : Array Oper := ((Try.f6.body).bind (findReg 3)).getD #[]
theorem lp_body : Try.f6.body = some (.seq (.region 0 lp0Ops false) (.seq (.region 1 lp1Ops false) (.seq (.region 2 lp2Ops false) (.seq (.region 3 lp3Ops false) .ret)))) := by kernel_rfl
theorem lp0_region {Q : Exit → Act → World → Prop} (p : Pay) (l : Fo) (d : Int) (q : Pay) (m : Fo)  {w0 : World} {a : Act} {w : World} (h : Hold 36 [(0, .term p l), (1, .val (.int .i64 d)), (2, .term q m)] w0 a w)
    (hQ : ∀ a' w', Hold 36 [(1, .val (.int .i64 d)), (3, .ptrT p l), (5, .ptrT q m), (6, .val (.bool false))] w0 a' w' → Q .normal a' w') : (Code.region 0 lp0Ops false).wp Try.prog Q a w := by
  refine region_seq (w0 := w) 3 (by kernel_rfl) ?_
  rw [show List.range 3 = [0, 1, 2] from rfl]
  refine env_one (i := 0) (d := 3) (k := .ptrT p l) (step_box (by kernel_rfl) (Opd.of_base 0 rfl) rfl) (by kernel_rfl) (by decide) h ?_
  clear h
  intro a w h
  refine env_one (i := 1) (d := 5) (k := .ptrT q m) (step_box (by kernel_rfl) (Opd.of_base 2 rfl) rfl) (by kernel_rfl) (by decide) h ?_
  clear h
  intro a w h
  refine env_one (i := 2) (d := 6) (k := .val (.bool false)) (step_assign (by kernel_rfl) (Opd.const _) rfl) (by kernel_rfl) (by decide) h ?_
  clear h
  intro a w h
  exact hQ a w (h.keep [1, 3, 5, 6])
theorem lp1_region {Q : Exit → Act → World → Prop} (p : Pay) (l : Fo) (d : Int) (q : Pay) (m : Fo)  {w0 : World} {a : Act} {w : World} (h : Hold 36 [(1, .val (.int .i64 d)), (3, .ptrT p l), (5, .ptrT q m), (6, .val (.bool false))] w0 a w)
    (hQ : ∀ a' w', Hold 36 [(1, .val (.int .i64 d)), (3, .ptrT p l), (5, .ptrT q m), (6, .val (.bool false)), (7, .ptrT (Tm.replaceOf p l d q m).1.1 (Tm.replaceOf p l d q m).1.2), (8, .val (.int .i64 (Tm.replaceOf p l d q m).2))] w0 a' w' → Q .normal a' w') : (Code.region 1 lp1Ops false).wp Try.prog Q a w := by
  refine region_seq (w0 := w) 10 (by kernel_rfl) ?_
  rw [show List.range 10 = [0, 1, 2, 3, 4, 5, 6, 7, 8, 9] from rfl]
  refine env_one (i := 0) (d := 12) (k := .term p l) (step_load_term (by kernel_rfl) (Opd.of_base 3 rfl) rfl) (by kernel_rfl) (by decide) h ?_
  clear h
  intro a w h
  refine env_one (i := 1) (d := 13) (k := .val (.int .i64 d)) (step_move (by kernel_rfl) (Opd.of_base 1 rfl) rfl) (by kernel_rfl) (by decide) h ?_
  clear h
  intro a w h
  refine env_one (i := 2) (d := 14) (k := .term q m) (step_load_term (by kernel_rfl) (Opd.of_base 5 rfl) rfl) (by kernel_rfl) (by decide) h ?_
  clear h
  intro a w h
  refine env_one (i := 3) (d := 15) (k := .pair (Tm.replaceOf p l d q m).1.1 (Tm.replaceOf p l d q m).1.2 (Tm.replaceOf p l d q m).2) (step_replace2 (by kernel_rfl) (Opd.of_base 12 rfl) (Opd.of_base 13 rfl) (Opd.of_base 14 rfl) rfl rfl) (by kernel_rfl) (by decide) h ?_
  clear h
  intro a w h
  refine env_one (i := 4) (d := 11) (k := .pair (Tm.replaceOf p l d q m).1.1 (Tm.replaceOf p l d q m).1.2 (Tm.replaceOf p l d q m).2) (step_move (by kernel_rfl) (Opd.of_base 15 rfl) rfl) (by kernel_rfl) (by decide) h ?_
  clear h
  intro a w h
  refine env_one (i := 5) (d := 16) (k := .term (Tm.replaceOf p l d q m).1.1 (Tm.replaceOf p l d q m).1.2) (step_pair0 (by kernel_rfl) (Opd.of_base 11 rfl) rfl) (by kernel_rfl) (by decide) h ?_
  clear h
  intro a w h
  refine env_one (i := 6) (d := 17) (k := .val (.int .i64 (Tm.replaceOf p l d q m).2)) (step_pair1 (by kernel_rfl) (Opd.of_base 11 rfl) rfl) (by kernel_rfl) (by decide) h ?_
  clear h
  intro a w h
  refine env_box (i := 7) (d := 7) (by kernel_rfl) (by decide) (by kernel_rfl) (by decide) (s := 16) rfl h ?_
  clear h
  intro a w h
  refine env_one (i := 9) (d := 8) (k := .val (.int .i64 (Tm.replaceOf p l d q m).2)) (step_assign (by kernel_rfl) (Opd.of_base 17 rfl) rfl) (by kernel_rfl) (by decide) h ?_
  clear h
  intro a w h
  exact hQ a w (h.keep [1, 3, 5, 6, 7, 8])
theorem lp2_region {Q : Exit → Act → World → Prop} (p : Pay) (l : Fo) (d : Int) (q : Pay) (m : Fo)  {w0 : World} {a : Act} {w : World} (h : Hold 36 [(1, .val (.int .i64 d)), (3, .ptrT p l), (5, .ptrT q m), (6, .val (.bool false)), (7, .ptrT (Tm.replaceOf p l d q m).1.1 (Tm.replaceOf p l d q m).1.2), (8, .val (.int .i64 (Tm.replaceOf p l d q m).2))] w0 a w)
    (hQ : ∀ a' w', Hold 36 [(1, .val (.int .i64 d)), (3, .ptrT p l), (5, .ptrT q m), (6, .val (.bool false)), (7, .ptrT (Tm.replaceOf p l d q m).1.1 (Tm.replaceOf p l d q m).1.2), (8, .val (.int .i64 (Tm.replaceOf p l d q m).2)), (9, .ptrT (Tm.replaceOf p l d q m).1.1 (Tm.replaceOf p l d q m).1.2), (10, .val (.int .i64 (Tm.replaceOf p l d q m).2))] w0 a' w' → Q .normal a' w') : (Code.region 2 lp2Ops false).wp Try.prog Q a w := by
  refine region_seq (w0 := w) 10 (by kernel_rfl) ?_
  rw [show List.range 10 = [0, 1, 2, 3, 4, 5, 6, 7, 8, 9] from rfl]
  refine env_one (i := 0) (d := 19) (k := .term p l) (step_load_term (by kernel_rfl) (Opd.of_base 3 rfl) rfl) (by kernel_rfl) (by decide) h ?_
  clear h
  intro a w h
  refine env_one (i := 1) (d := 20) (k := .val (.int .i64 d)) (step_move (by kernel_rfl) (Opd.of_base 1 rfl) rfl) (by kernel_rfl) (by decide) h ?_
  clear h
  intro a w h
  refine env_one (i := 2) (d := 21) (k := .term q m) (step_load_term (by kernel_rfl) (Opd.of_base 5 rfl) rfl) (by kernel_rfl) (by decide) h ?_
  clear h
  intro a w h
  refine env_one (i := 3) (d := 22) (k := .pair (Tm.replaceOf p l d q m).1.1 (Tm.replaceOf p l d q m).1.2 (Tm.replaceOf p l d q m).2) (step_rreplace2 (by kernel_rfl) (Opd.of_base 19 rfl) (Opd.of_base 20 rfl) (Opd.of_base 21 rfl) rfl rfl) (by kernel_rfl) (by decide) h ?_
  clear h
  intro a w h
  refine env_one (i := 4) (d := 18) (k := .pair (Tm.replaceOf p l d q m).1.1 (Tm.replaceOf p l d q m).1.2 (Tm.replaceOf p l d q m).2) (step_move (by kernel_rfl) (Opd.of_base 22 rfl) rfl) (by kernel_rfl) (by decide) h ?_
  clear h
  intro a w h
  refine env_one (i := 5) (d := 23) (k := .term (Tm.replaceOf p l d q m).1.1 (Tm.replaceOf p l d q m).1.2) (step_pair0 (by kernel_rfl) (Opd.of_base 18 rfl) rfl) (by kernel_rfl) (by decide) h ?_
  clear h
  intro a w h
  refine env_one (i := 6) (d := 24) (k := .val (.int .i64 (Tm.replaceOf p l d q m).2)) (step_pair1 (by kernel_rfl) (Opd.of_base 18 rfl) rfl) (by kernel_rfl) (by decide) h ?_
  clear h
  intro a w h
  refine env_box (i := 7) (d := 9) (by kernel_rfl) (by decide) (by kernel_rfl) (by decide) (s := 23) rfl h ?_
  clear h
  intro a w h
  refine env_one (i := 9) (d := 10) (k := .val (.int .i64 (Tm.replaceOf p l d q m).2)) (step_assign (by kernel_rfl) (Opd.of_base 24 rfl) rfl) (by kernel_rfl) (by decide) h ?_
  clear h
  intro a w h
  exact hQ a w (h.keep [1, 3, 5, 6, 7, 8, 9, 10])
theorem lp3_region {Q : Exit → Act → World → Prop} (p : Pay) (l : Fo) (d : Int) (q : Pay) (m : Fo)  {w0 : World} {a : Act} {w : World} (h : Hold 36 [(1, .val (.int .i64 d)), (3, .ptrT p l), (5, .ptrT q m), (6, .val (.bool false)), (7, .ptrT (Tm.replaceOf p l d q m).1.1 (Tm.replaceOf p l d q m).1.2), (8, .val (.int .i64 (Tm.replaceOf p l d q m).2)), (9, .ptrT (Tm.replaceOf p l d q m).1.1 (Tm.replaceOf p l d q m).1.2), (10, .val (.int .i64 (Tm.replaceOf p l d q m).2))] w0 a w)
    (hQ : ∀ a' w', Hold 36 [(6, .val (.bool true))] w0 a' w' → Q .normal a' w') : (Code.region 3 lp3Ops false).wp Try.prog Q a w := by
  refine region_seq (w0 := w) 12 (by kernel_rfl) ?_
  rw [show List.range 12 = [0, 1, 2, 3, 4, 5, 6, 7, 8, 9, 10, 11] from rfl]
  refine env_one (i := 0) (d := 25) (k := .val (.int .i64 (Tm.replaceOf p l d q m).2)) (step_move (by kernel_rfl) (Opd.of_base 8 rfl) rfl) (by kernel_rfl) (by decide) h ?_
  clear h
  intro a w h
  refine env_one (i := 1) (d := 26) (k := .val (.int .i64 (Tm.replaceOf p l d q m).2)) (step_move (by kernel_rfl) (Opd.of_base 10 rfl) rfl) (by kernel_rfl) (by decide) h ?_
  clear h
  intro a w h
  refine env_one (i := 2) (d := 27) (k := .val (.bool true)) (step_eqs_err (by kernel_rfl) (Opd.of_base 25 rfl) (Opd.of_base 26 rfl) rfl) (by kernel_rfl) (by decide) h ?_
  clear h
  intro a w h
  refine env_one (i := 3) (d := 28) (k := .val (.bool true)) (step_move (by kernel_rfl) (Opd.of_base 27 rfl) rfl) (by kernel_rfl) (by decide) h ?_
  clear h
  intro a w h
  refine env_guard (i := 4) (d := 29) (g := 3) (dg := 28) (b := true) (k := .term (Tm.replaceOf p l d q m).1.1 (Tm.replaceOf p l d q m).1.2) (step_load_term (by kernel_rfl) (Opd.of_base 7 rfl) rfl) (by kernel_rfl) (by decide) (by kernel_rfl) (by decide) rfl h ?_
  clear h
  intro a w h
  refine env_guard (i := 5) (d := 30) (g := 3) (dg := 28) (b := true) (k := .term (Tm.replaceOf p l d q m).1.1 (Tm.replaceOf p l d q m).1.2) (step_load_term (by kernel_rfl) (Opd.of_base 9 rfl) rfl) (by kernel_rfl) (by decide) (by kernel_rfl) (by decide) rfl h ?_
  clear h
  intro a w h
  refine env_guard (i := 6) (d := 31) (g := 3) (dg := 28) (b := true) (k := .val (.bool true)) (step_lsame (by kernel_rfl) (Opd.of_base 29 rfl) (Opd.of_base 30 rfl) (Tm.same_self (Tm.replace_valid p l d q m)) rfl) (by kernel_rfl) (by decide) (by kernel_rfl) (by decide) rfl h ?_
  clear h
  intro a w h
  refine env_one (i := 7) (d := 32) (k := .val (.bool true)) (step_pick_yes (y := .const (.bool false)) (by kernel_rfl) (Opd.of_base 28 rfl) (Opd.of_base 31 rfl) rfl) (by kernel_rfl) (by decide) h ?_
  clear h
  intro a w h
  refine env_one (i := 8) (d := 33) (k := .val (.bool true)) (step_move (by kernel_rfl) (Opd.of_base 32 rfl) rfl) (by kernel_rfl) (by decide) h ?_
  clear h
  intro a w h
  refine env_guard (i := 9) (d := 34) (g := 8) (dg := 33) (b := true) (k := .val (.bool true)) (step_awake (by kernel_rfl) rfl) (by kernel_rfl) (by decide) (by kernel_rfl) (by decide) rfl h ?_
  clear h
  intro a w h
  refine env_one (i := 10) (d := 35) (k := .val (.bool true)) (step_pick_yes (y := .const (.bool false)) (by kernel_rfl) (Opd.of_base 33 rfl) (Opd.of_base 34 rfl) rfl) (by kernel_rfl) (by decide) h ?_
  clear h
  intro a w h
  refine env_one (i := 11) (d := 6) (k := .val (.bool true)) (step_assign (by kernel_rfl) (Opd.of_base 35 rfl) rfl) (by kernel_rfl) (by decide) h ?_
  clear h
  intro a w h
  exact hQ a w (h.keep [6])
theorem law_replaces (p : Pay) (l : Fo) (A : Option Addr) (c : Nat) (d : Int) (q : Pay) (m : Fo) (A' : Option Addr) (c' : Nat) (w : World) (hA : ArgsB w w.heap.size A (Tm.len l) l) (hA' : ArgsB w w.heap.size A' (Tm.len m) m) :
    Calls Try.prog 6 #[tv p A (Tm.len l) c, .int .i64 d, tv q A' (Tm.len m) c'] w fun e w' => e = .returned (.bool true) ∧ Below w.heap.size w w' := by
  refine calls_of_wp Try.func6 lp_body ?_
  obtain ⟨v0, hv0⟩ : ∃ v : Value, v = tv p A (Tm.len l) c := ⟨_, rfl⟩
  obtain ⟨v1, hv1⟩ : ∃ v : Value, v = .int .i64 d := ⟨_, rfl⟩
  obtain ⟨v2, hv2⟩ : ∃ v : Value, v = tv q A' (Tm.len m) c' := ⟨_, rfl⟩
  rw [← hv0, ← hv1, ← hv2]
  have hk0 : (Kd.term p l).R v0 w := ⟨A, c, hv0, hA⟩
  have hk1 : (Kd.val (.int .i64 d)).R v1 w := hv1
  have hk2 : (Kd.term q m).R v2 w := ⟨A', c', hv2, hA'⟩
  have hs : (#[v0, v1, v2] ++ Array.replicate (Try.f6.ntmps - #[v0, v1, v2].size) undef : Array Value).size = 36 := by kernel_rfl
  have g0 : (#[v0, v1, v2] ++ Array.replicate (Try.f6.ntmps - #[v0, v1, v2].size) undef : Array Value).getD 0 undef = v0 := by kernel_rfl
  have g1 : (#[v0, v1, v2] ++ Array.replicate (Try.f6.ntmps - #[v0, v1, v2].size) undef : Array Value).getD 1 undef = v1 := by kernel_rfl
  have g2 : (#[v0, v1, v2] ++ Array.replicate (Try.f6.ntmps - #[v0, v1, v2].size) undef : Array Value).getD 2 undef = v2 := by kernel_rfl
  generalize (#[v0, v1, v2] ++ Array.replicate (Try.f6.ntmps - #[v0, v1, v2].size) undef : Array Value) = tm at hs g0 g1 g2 ⊢
  refine wp_seq ?_
  refine lp0_region p l d q m (w0 := w) ⟨hs, rfl, Below.refl _ _, (slots_cons 0 (by rw [g0]; exact hk0) (slots_cons 1 (by rw [g1]; exact hk1) (slots_cons 2 (by rw [g2]; exact hk2) slots_nil)))⟩ ?_
  intro a w h
  show Code.wp _ _ _ a w
  refine wp_seq ?_
  refine lp1_region p l d q m h ?_
  intro a w h
  show Code.wp _ _ _ a w
  refine wp_seq ?_
  refine lp2_region p l d q m h ?_
  intro a w h
  show Code.wp _ _ _ a w
  refine wp_seq ?_
  refine lp3_region p l d q m h ?_
  intro a w h
  show Code.wp _ _ _ a w
  refine wp_ret ?_
  (try simp only [then_ret, block_ret])
  exact law_fin rfl (h.get 6 rfl) h.defers ⟨rfl, h.world⟩
end Go.Proofs.Ytmljkhofahgelaa
