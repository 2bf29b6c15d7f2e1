/-
  The reference's Rank.
  The reference's Stable, Keys and Sort.
  The reference's Sort.
  What an operation of the statements does, by what its operands hold.
-/
import Derived.Test.YtcjakmafojbhlaaDoorPartF
import Derived.Test.YtcjakmafojbhlaaDoorPartB
namespace Go.Proofs.YtcjakmafojbhlaaDoor
set_option linter.unusedVariables false
set_option linter.unusedSimpArgs false
open Go.RowKit
section
variable {ops : Array Oper} {Q : Exit → Act → World → Prop} {E : Nat → Kd} {D : Nat → Nat} {base : Nat → Option Kd} {N : Nat}
theorem step_rvalids {i : Nat} {x : Operand} {F : Fo} {b : Bool} (hn : Tm.len F ≤ 4611686018427387904) (hop : (ops[i]?).map (·.op) = some (.call { callee := .value (.func 47), args := #[x], argTypes := #[22] })) (hx : Opd ops E D base N i x (.row F)) (hb : Tm.allV F = b) (hE : E i = .val (.bool b)) : Step Tryd.prog ops Q E D base N i :=
  step_call hop (fun _ _ => by kernel_rfl) fun a w h => by
    obtain ⟨A, c, ex, ha⟩ := hx a w h
    rw [show (#[x] : Array Operand).map a.eval = #[.slice A (Tm.len F) c] by rw [← ex]; simp, hE]
    subst hb
    exact below_R (rvalids_any F A (Tm.len F) c w.heap.size w ha hn (Nat.le_refl _))
theorem step_rcmpg {i : Nat} {x y : Operand} {p p' : Pay} {l l' : Fo} (hg : Tm.goodB p l = true) (hg' : Tm.goodB p' l' = true) (hop : (ops[i]?).map (·.op) = some (.call { callee := .value (.func 38), args := #[x, y], argTypes := #[24, 24] })) (hx : Opd ops E D base N i x (.term p l)) (hy : Opd ops E D base N i y (.term p' l')) (hE : E i = .val (.int .i64 (Tm.cmpT p l p' l'))) : Step Tryd.prog ops Q E D base N i :=
  step_rcompare (fun A A' c c' w hA hA' => rcompare_any p l A c p' l' A' c' w.heap.size w hg hg' hA hA' (Nat.le_refl _)) hop hx hy hE
end
noncomputable def rk0Ops : Array Oper := ((Tryd.f27.body).bind (findReg 0)).getD #[]
noncomputable def rk1Ops : Array Oper := ((Tryd.f27.body).bind (findReg 1)).getD #[]
noncomputable def rk2Ops : Array Oper := ((Tryd.f27.body).bind (findReg 2)).getD #[]
noncomputable def rk3Ops : Array Oper := ((Tryd.f27.body).bind (findReg 3)).getD #[]
noncomputable def rk4Ops : Array Oper := ((Tryd.f27.body).bind (findReg 4)).getD #[]
noncomputable def rk5Ops : Array Oper := ((Tryd.f27.body).bind (findReg 5)).getD #[]
noncomputable def rk6Ops : Array Oper := ((Tryd.f27.body).bind (findReg 6)).getD #[]
noncomputable def rk7Ops : Array Oper := ((Tryd.f27.body).bind (findReg 7)).getD #[]
noncomputable def rk8Ops : Array Oper := ((Tryd.f27.body).bind (findReg 8)).getD #[]
noncomputable def rk9Ops : Array Oper := ((Tryd.f27.body).bind (findReg 9)).getD #[]
noncomputable def rk10Ops : Array Oper := ((Tryd.f27.body).bind (findReg 10)).getD #[]
noncomputable def rk11Ops : Array Oper := ((Tryd.f27.body).bind (findReg 11)).getD #[]
theorem rk_body : Tryd.f27.body = some (.seq (.region 0 rk0Ops false) (.seq (.seq (.region 1 rk1Ops false) (.cond (.tmp 15) (.seq (.region 2 rk2Ops false) .ret) .skip)) (.seq (.seq (.region 3 rk3Ops false) (.block 0 (.loop (.seq (.seq (.region 4 rk4Ops false) (.cond (.tmp 19) .skip (.exit 0))) (.seq (.block 1 (.seq (.region 6 rk6Ops true) (.cond (.tmp 32) (.seq (.region 7 rk7Ops false) .ret) .skip))) (.region 5 rk5Ops false)))))) (.seq (.region 8 rk8Ops false) (.seq (.block 2 (.loop (.seq (.seq (.region 9 rk9Ops true) (.cond (.tmp 45) .skip (.exit 2))) (.block 3 (.region 10 rk10Ops false))))) (.seq (.region 11 rk11Ops true) .ret)))))) := by kernel_rfl
theorem rk0_region {Q : Exit → Act → World → Prop} (F : Fo) (p : Pay) (l : Fo)  {w0 : World} {a : Act} {w : World} (h : Hold 62 [(0, .row F), (1, .term p l)] w0 a w)
    (hQ : ∀ a' w', Hold 62 [(0, .row F), (3, .ptrT p l)] w0 a' w' → Q .normal a' w') : (Code.region 0 rk0Ops false).wp Tryd.prog Q a w := by
  refine region_seq (w0 := w) 3 (by kernel_rfl) ?_
  rw [show List.range 3 = [0, 1, 2] from rfl]
  refine env_one (i := 0) (d := 3) (k := .ptrT p l) (step_box (by kernel_rfl) (Opd.of_base 1 rfl) rfl) (by kernel_rfl) (by decide) h ?_
  clear h
  intro a w h
  refine env_one (i := 1) (d := 4) (k := .val (.int .i64 0)) (step_assign (by kernel_rfl) (Opd.const _) rfl) (by kernel_rfl) (by decide) h ?_
  clear h
  intro a w h
  refine env_one (i := 2) (d := 5) (k := .val (.bool false)) (step_assign (by kernel_rfl) (Opd.const _) rfl) (by kernel_rfl) (by decide) h ?_
  clear h
  intro a w h
  exact hQ a w (h.keep [0, 3])
theorem rk1a_region {Q : Exit → Act → World → Prop} (F : Fo) (p : Pay) (l : Fo) (hn : Tm.len F ≤ 4611686018427387904) (h1 : Tm.validB p l = false) {w0 : World} {a : Act} {w : World} (h : Hold 62 [(0, .row F), (3, .ptrT p l)] w0 a w)
    (hQ : ∀ a' w', Hold 62 [(0, .row F), (3, .ptrT p l), (15, .val (.bool true))] w0 a' w' → Q .normal a' w') : (Code.region 1 rk1Ops false).wp Tryd.prog Q a w := by
  refine region_seq (w0 := w) 8 (by kernel_rfl) ?_
  rw [show List.range 8 = [0, 1, 2, 3, 4, 5, 6, 7] from rfl]
  refine env_one (i := 0) (d := 8) (k := .term p l) (step_load_term (by kernel_rfl) (Opd.of_base 3 rfl) rfl) (by kernel_rfl) (by decide) h ?_
  clear h
  intro a w h
  refine env_one (i := 1) (d := 9) (k := .val (.bool false)) (step_rvalid (by kernel_rfl) (Opd.of_base 8 rfl) h1 rfl) (by kernel_rfl) (by decide) h ?_
  clear h
  intro a w h
  refine env_one (i := 2) (d := 10) (k := .val (.bool true)) (step_not (by kernel_rfl) (Opd.of_base 9 rfl) rfl) (by kernel_rfl) (by decide) h ?_
  clear h
  intro a w h
  refine env_one (i := 3) (d := 11) (k := .val (.bool true)) (step_move (by kernel_rfl) (Opd.of_base 10 rfl) rfl) (by kernel_rfl) (by decide) h ?_
  clear h
  intro a w h
  refine env_skip (i := 4) (d := 12) (g := 3) (dg := 11) (b := false) (by kernel_rfl) (by decide) (by kernel_rfl) rfl rfl h ?_
  clear h
  intro a w h
  refine env_skip (i := 5) (d := 13) (g := 3) (dg := 11) (b := false) (by kernel_rfl) (by decide) (by kernel_rfl) rfl rfl h ?_
  clear h
  intro a w h
  refine env_skip (i := 6) (d := 14) (g := 3) (dg := 11) (b := false) (by kernel_rfl) (by decide) (by kernel_rfl) rfl rfl h ?_
  clear h
  intro a w h
  refine env_one (i := 7) (d := 15) (k := .val (.bool true)) (step_pick_yes (y := .tmp 14) (by kernel_rfl) (Opd.of_base 11 rfl) (Opd.const _) rfl) (by kernel_rfl) (by decide) h ?_
  clear h
  intro a w h
  exact hQ a w (h.keep [0, 3, 15])
theorem rk1b_region {Q : Exit → Act → World → Prop} (F : Fo) (p : Pay) (l : Fo) (hn : Tm.len F ≤ 4611686018427387904) (h1 : Tm.validB p l = true) (h2 : Tm.allV F = false) {w0 : World} {a : Act} {w : World} (h : Hold 62 [(0, .row F), (3, .ptrT p l)] w0 a w)
    (hQ : ∀ a' w', Hold 62 [(0, .row F), (3, .ptrT p l), (15, .val (.bool true))] w0 a' w' → Q .normal a' w') : (Code.region 1 rk1Ops false).wp Tryd.prog Q a w := by
  refine region_seq (w0 := w) 8 (by kernel_rfl) ?_
  rw [show List.range 8 = [0, 1, 2, 3, 4, 5, 6, 7] from rfl]
  refine env_one (i := 0) (d := 8) (k := .term p l) (step_load_term (by kernel_rfl) (Opd.of_base 3 rfl) rfl) (by kernel_rfl) (by decide) h ?_
  clear h
  intro a w h
  refine env_one (i := 1) (d := 9) (k := .val (.bool true)) (step_rvalid (by kernel_rfl) (Opd.of_base 8 rfl) h1 rfl) (by kernel_rfl) (by decide) h ?_
  clear h
  intro a w h
  refine env_one (i := 2) (d := 10) (k := .val (.bool false)) (step_not (by kernel_rfl) (Opd.of_base 9 rfl) rfl) (by kernel_rfl) (by decide) h ?_
  clear h
  intro a w h
  refine env_one (i := 3) (d := 11) (k := .val (.bool false)) (step_move (by kernel_rfl) (Opd.of_base 10 rfl) rfl) (by kernel_rfl) (by decide) h ?_
  clear h
  intro a w h
  refine env_guard (i := 4) (d := 12) (g := 3) (dg := 11) (b := false) (k := .row F) (step_move (by kernel_rfl) (Opd.of_base 0 rfl) rfl) (by kernel_rfl) (by decide) (by kernel_rfl) (by decide) rfl h ?_
  clear h
  intro a w h
  refine env_guard (i := 5) (d := 13) (g := 3) (dg := 11) (b := false) (k := .val (.bool false)) (step_rvalids hn (by kernel_rfl) (Opd.of_base 12 rfl) h2 rfl) (by kernel_rfl) (by decide) (by kernel_rfl) (by decide) rfl h ?_
  clear h
  intro a w h
  refine env_guard (i := 6) (d := 14) (g := 3) (dg := 11) (b := false) (k := .val (.bool true)) (step_not (by kernel_rfl) (Opd.of_base 13 rfl) rfl) (by kernel_rfl) (by decide) (by kernel_rfl) (by decide) rfl h ?_
  clear h
  intro a w h
  refine env_one (i := 7) (d := 15) (k := .val (.bool true)) (step_pick_no (x := .const (.bool true)) (by kernel_rfl) (Opd.of_base 11 rfl) (Opd.of_base 14 rfl) rfl) (by kernel_rfl) (by decide) h ?_
  clear h
  intro a w h
  exact hQ a w (h.keep [0, 3, 15])
theorem rk1c_region {Q : Exit → Act → World → Prop} (F : Fo) (p : Pay) (l : Fo) (hn : Tm.len F ≤ 4611686018427387904) (h1 : Tm.validB p l = true) (h2 : Tm.allV F = true) {w0 : World} {a : Act} {w : World} (h : Hold 62 [(0, .row F), (3, .ptrT p l)] w0 a w)
    (hQ : ∀ a' w', Hold 62 [(0, .row F), (3, .ptrT p l), (15, .val (.bool false))] w0 a' w' → Q .normal a' w') : (Code.region 1 rk1Ops false).wp Tryd.prog Q a w := by
  refine region_seq (w0 := w) 8 (by kernel_rfl) ?_
  rw [show List.range 8 = [0, 1, 2, 3, 4, 5, 6, 7] from rfl]
  refine env_one (i := 0) (d := 8) (k := .term p l) (step_load_term (by kernel_rfl) (Opd.of_base 3 rfl) rfl) (by kernel_rfl) (by decide) h ?_
  clear h
  intro a w h
  refine env_one (i := 1) (d := 9) (k := .val (.bool true)) (step_rvalid (by kernel_rfl) (Opd.of_base 8 rfl) h1 rfl) (by kernel_rfl) (by decide) h ?_
  clear h
  intro a w h
  refine env_one (i := 2) (d := 10) (k := .val (.bool false)) (step_not (by kernel_rfl) (Opd.of_base 9 rfl) rfl) (by kernel_rfl) (by decide) h ?_
  clear h
  intro a w h
  refine env_one (i := 3) (d := 11) (k := .val (.bool false)) (step_move (by kernel_rfl) (Opd.of_base 10 rfl) rfl) (by kernel_rfl) (by decide) h ?_
  clear h
  intro a w h
  refine env_guard (i := 4) (d := 12) (g := 3) (dg := 11) (b := false) (k := .row F) (step_move (by kernel_rfl) (Opd.of_base 0 rfl) rfl) (by kernel_rfl) (by decide) (by kernel_rfl) (by decide) rfl h ?_
  clear h
  intro a w h
  refine env_guard (i := 5) (d := 13) (g := 3) (dg := 11) (b := false) (k := .val (.bool true)) (step_rvalids hn (by kernel_rfl) (Opd.of_base 12 rfl) h2 rfl) (by kernel_rfl) (by decide) (by kernel_rfl) (by decide) rfl h ?_
  clear h
  intro a w h
  refine env_guard (i := 6) (d := 14) (g := 3) (dg := 11) (b := false) (k := .val (.bool false)) (step_not (by kernel_rfl) (Opd.of_base 13 rfl) rfl) (by kernel_rfl) (by decide) (by kernel_rfl) (by decide) rfl h ?_
  clear h
  intro a w h
  refine env_one (i := 7) (d := 15) (k := .val (.bool false)) (step_pick_no (x := .const (.bool true)) (by kernel_rfl) (Opd.of_base 11 rfl) (Opd.of_base 14 rfl) rfl) (by kernel_rfl) (by decide) h ?_
  clear h
  intro a w h
  exact hQ a w (h.keep [0, 3, 15])
theorem rk2_region {Q : Exit → Act → World → Prop} (F : Fo) (p : Pay) (l : Fo)  {w0 : World} {a : Act} {w : World} (h : Hold 62 [(0, .row F), (3, .ptrT p l)] w0 a w)
    (hQ : ∀ a' w', Hold 62 [(4, .val (.int .i64 0)), (5, .val (.bool false))] w0 a' w' → Q .normal a' w') : (Code.region 2 rk2Ops false).wp Tryd.prog Q a w := by
  refine region_seq (w0 := w) 2 (by kernel_rfl) ?_
  rw [show List.range 2 = [0, 1] from rfl]
  refine env_one (i := 0) (d := 4) (k := .val (.int .i64 0)) (step_assign (by kernel_rfl) (Opd.const _) rfl) (by kernel_rfl) (by decide) h ?_
  clear h
  intro a w h
  refine env_one (i := 1) (d := 5) (k := .val (.bool false)) (step_assign (by kernel_rfl) (Opd.const _) rfl) (by kernel_rfl) (by decide) h ?_
  clear h
  intro a w h
  exact hQ a w (h.keep [4, 5])
theorem rk3_region {Q : Exit → Act → World → Prop} (F : Fo) (p : Pay) (l : Fo)  {w0 : World} {a : Act} {w : World} (h : Hold 62 [(0, .row F), (3, .ptrT p l)] w0 a w)
    (hQ : ∀ a' w', Hold 62 [(0, .row F), (3, .ptrT p l), (6, .val (.int .i64 1))] w0 a' w' → Q .normal a' w') : (Code.region 3 rk3Ops false).wp Tryd.prog Q a w := by
  refine region_seq (w0 := w) 1 (by kernel_rfl) ?_
  rw [show List.range 1 = [0] from rfl]
  refine env_one (i := 0) (d := 6) (k := .val (.int .i64 1)) (step_assign (by kernel_rfl) (Opd.const _) rfl) (by kernel_rfl) (by decide) h ?_
  clear h
  intro a w h
  exact hQ a w (h.keep [0, 3, 6])
theorem rk4_region {Q : Exit → Act → World → Prop} (F : Fo) (p : Pay) (l : Fo) (k : Nat)  {w0 : World} {a : Act} {w : World} (h : Hold 62 [(0, .row F), (3, .ptrT p l), (6, .val (.int .i64 ((k + 1 : Nat) : Int)))] w0 a w)
    (hQ : ∀ a' w', Hold 62 [(0, .row F), (3, .ptrT p l), (6, .val (.int .i64 ((k + 1 : Nat) : Int))), (19, .val (.bool (decide (((k + 1 : Nat) : Int) < ((Tm.len F : Nat) : Int)))))] w0 a' w' → Q .normal a' w') : (Code.region 4 rk4Ops false).wp Tryd.prog Q a w := by
  refine region_seq (w0 := w) 4 (by kernel_rfl) ?_
  rw [show List.range 4 = [0, 1, 2, 3] from rfl]
  refine env_one (i := 0) (d := 16) (k := .val (.int .i64 ((k + 1 : Nat) : Int))) (step_move (by kernel_rfl) (Opd.of_base 6 rfl) rfl) (by kernel_rfl) (by decide) h ?_
  clear h
  intro a w h
  refine env_one (i := 1) (d := 17) (k := .row F) (step_move (by kernel_rfl) (Opd.of_base 0 rfl) rfl) (by kernel_rfl) (by decide) h ?_
  clear h
  intro a w h
  refine env_one (i := 2) (d := 18) (k := .val (.int .i64 ((Tm.len F : Nat) : Int))) (step_len_row (by kernel_rfl) (Opd.of_base 17 rfl) rfl) (by kernel_rfl) (by decide) h ?_
  clear h
  intro a w h
  refine env_one (i := 3) (d := 19) (k := .val (.bool (decide (((k + 1 : Nat) : Int) < ((Tm.len F : Nat) : Int))))) (step_lt_int (m := ((k + 1 : Nat) : Int)) (n := ((Tm.len F : Nat) : Int)) (by kernel_rfl) (Opd.of_base 16 rfl) (Opd.of_base 18 rfl) rfl rfl) (by kernel_rfl) (by decide) h ?_
  clear h
  intro a w h
  exact hQ a w (h.keep [0, 3, 6, 19])
def rk6Es (F : Fo) (p : Pay) (l : Fo) (k : Nat) (p1 : Pay) (l1 r1 : Fo) (p2 : Pay) (l2 r2 : Fo) : List Kd := [
  .row F,
  .val (.int .i64 ((k + 1 : Nat) : Int)),
  .val (.int .i64 (((k + 1) - 1 : Nat) : Int)),
  .ptrT p1 l1,
  .term p1 l1,
  .row F,
  .val (.int .i64 ((k + 1 : Nat) : Int)),
  .ptrT p2 l2,
  .term p2 l2,
  .val (.int .i64 (Tm.cmpT p1 l1 p2 l2)),
  .val (.bool (decide (0 ≤ (Tm.cmpT p1 l1 p2 l2))))]
def rk6Ds : List Nat := [22, 23, 24, 25, 26, 27, 28, 29, 30, 31, 32]
def rk6Env (F : Fo) (p : Pay) (l : Fo) (k : Nat) (p1 : Pay) (l1 r1 : Fo) (p2 : Pay) (l2 r2 : Fo) : Env := [(0, .row F), (3, .ptrT p l), (6, .val (.int .i64 ((k + 1 : Nat) : Int)))]
theorem rk6_0 {Q : Exit → Act → World → Prop} (F : Fo) (p : Pay) (l : Fo) (k : Nat) (p1 : Pay) (l1 r1 : Fo) (p2 : Pay) (l2 r2 : Fo) (hk : k + 1 < 9223372036854775807) (d1 : Tm.dropF F (k + 1 - 1) = .node p1 l1 r1) (d2 : Tm.dropF F (k + 1) = .node p2 l2 r2) (g1 : Tm.goodB p1 l1 = true) (g2 : Tm.goodB p2 l2 = true) : RStep rk6Ops Q (fun i => ((rk6Es F p l k p1 l1 r1 p2 l2 r2)[i]?).getD .any) (fun i => (rk6Ds[i]?).getD (1000 + i)) (look (rk6Env F p l k p1 l1 r1 p2 l2 r2)) 62 0 := fun _ => step_move (by kernel_rfl) (Opd.of_base 0 rfl) rfl
theorem rk6_1 {Q : Exit → Act → World → Prop} (F : Fo) (p : Pay) (l : Fo) (k : Nat) (p1 : Pay) (l1 r1 : Fo) (p2 : Pay) (l2 r2 : Fo) (hk : k + 1 < 9223372036854775807) (d1 : Tm.dropF F (k + 1 - 1) = .node p1 l1 r1) (d2 : Tm.dropF F (k + 1) = .node p2 l2 r2) (g1 : Tm.goodB p1 l1 = true) (g2 : Tm.goodB p2 l2 = true) : RStep rk6Ops Q (fun i => ((rk6Es F p l k p1 l1 r1 p2 l2 r2)[i]?).getD .any) (fun i => (rk6Ds[i]?).getD (1000 + i)) (look (rk6Env F p l k p1 l1 r1 p2 l2 r2)) 62 1 := fun _ => step_move (by kernel_rfl) (Opd.of_base 6 rfl) rfl
theorem rk6_2 {Q : Exit → Act → World → Prop} (F : Fo) (p : Pay) (l : Fo) (k : Nat) (p1 : Pay) (l1 r1 : Fo) (p2 : Pay) (l2 r2 : Fo) (hk : k + 1 < 9223372036854775807) (d1 : Tm.dropF F (k + 1 - 1) = .node p1 l1 r1) (d2 : Tm.dropF F (k + 1) = .node p2 l2 r2) (g1 : Tm.goodB p1 l1 = true) (g2 : Tm.goodB p2 l2 = true) : RStep rk6Ops Q (fun i => ((rk6Es F p l k p1 l1 r1 p2 l2 r2)[i]?).getD .any) (fun i => (rk6Ds[i]?).getD (1000 + i)) (look (rk6Env F p l k p1 l1 r1 p2 l2 r2)) 62 2 := fun _ => step_sub (m := ((k + 1 : Nat) : Int)) (n := 1) (s := (((k + 1) - 1 : Nat) : Int)) (by kernel_rfl) (Opd.dep 1 rfl rfl (by kernel_rfl)) (Opd.const _) (by rw [IntKind.wrap_i64]; omega) rfl
theorem rk6_3 {Q : Exit → Act → World → Prop} (F : Fo) (p : Pay) (l : Fo) (k : Nat) (p1 : Pay) (l1 r1 : Fo) (p2 : Pay) (l2 r2 : Fo) (hk : k + 1 < 9223372036854775807) (d1 : Tm.dropF F (k + 1 - 1) = .node p1 l1 r1) (d2 : Tm.dropF F (k + 1) = .node p2 l2 r2) (g1 : Tm.goodB p1 l1 = true) (g2 : Tm.goodB p2 l2 = true) : RStep rk6Ops Q (fun i => ((rk6Es F p l k p1 l1 r1 p2 l2 r2)[i]?).getD .any) (fun i => (rk6Ds[i]?).getD (1000 + i)) (look (rk6Env F p l k p1 l1 r1 p2 l2 r2)) 62 3 := fun _ => step_row_at (k := (k + 1) - 1) (r := r1) (by kernel_rfl) (Opd.dep 0 rfl rfl (by kernel_rfl)) (Opd.dep 2 rfl rfl (by kernel_rfl)) d1 rfl
theorem rk6_4 {Q : Exit → Act → World → Prop} (F : Fo) (p : Pay) (l : Fo) (k : Nat) (p1 : Pay) (l1 r1 : Fo) (p2 : Pay) (l2 r2 : Fo) (hk : k + 1 < 9223372036854775807) (d1 : Tm.dropF F (k + 1 - 1) = .node p1 l1 r1) (d2 : Tm.dropF F (k + 1) = .node p2 l2 r2) (g1 : Tm.goodB p1 l1 = true) (g2 : Tm.goodB p2 l2 = true) : RStep rk6Ops Q (fun i => ((rk6Es F p l k p1 l1 r1 p2 l2 r2)[i]?).getD .any) (fun i => (rk6Ds[i]?).getD (1000 + i)) (look (rk6Env F p l k p1 l1 r1 p2 l2 r2)) 62 4 := fun _ => step_load_term (by kernel_rfl) (Opd.dep 3 rfl rfl (by kernel_rfl)) rfl
theorem rk6_5 {Q : Exit → Act → World → Prop} (F : Fo) (p : Pay) (l : Fo) (k : Nat) (p1 : Pay) (l1 r1 : Fo) (p2 : Pay) (l2 r2 : Fo) (hk : k + 1 < 9223372036854775807) (d1 : Tm.dropF F (k + 1 - 1) = .node p1 l1 r1) (d2 : Tm.dropF F (k + 1) = .node p2 l2 r2) (g1 : Tm.goodB p1 l1 = true) (g2 : Tm.goodB p2 l2 = true) : RStep rk6Ops Q (fun i => ((rk6Es F p l k p1 l1 r1 p2 l2 r2)[i]?).getD .any) (fun i => (rk6Ds[i]?).getD (1000 + i)) (look (rk6Env F p l k p1 l1 r1 p2 l2 r2)) 62 5 := fun _ => step_move (by kernel_rfl) (Opd.of_base 0 rfl) rfl
theorem rk6_6 {Q : Exit → Act → World → Prop} (F : Fo) (p : Pay) (l : Fo) (k : Nat) (p1 : Pay) (l1 r1 : Fo) (p2 : Pay) (l2 r2 : Fo) (hk : k + 1 < 9223372036854775807) (d1 : Tm.dropF F (k + 1 - 1) = .node p1 l1 r1) (d2 : Tm.dropF F (k + 1) = .node p2 l2 r2) (g1 : Tm.goodB p1 l1 = true) (g2 : Tm.goodB p2 l2 = true) : RStep rk6Ops Q (fun i => ((rk6Es F p l k p1 l1 r1 p2 l2 r2)[i]?).getD .any) (fun i => (rk6Ds[i]?).getD (1000 + i)) (look (rk6Env F p l k p1 l1 r1 p2 l2 r2)) 62 6 := fun _ => step_move (by kernel_rfl) (Opd.of_base 6 rfl) rfl
theorem rk6_7 {Q : Exit → Act → World → Prop} (F : Fo) (p : Pay) (l : Fo) (k : Nat) (p1 : Pay) (l1 r1 : Fo) (p2 : Pay) (l2 r2 : Fo) (hk : k + 1 < 9223372036854775807) (d1 : Tm.dropF F (k + 1 - 1) = .node p1 l1 r1) (d2 : Tm.dropF F (k + 1) = .node p2 l2 r2) (g1 : Tm.goodB p1 l1 = true) (g2 : Tm.goodB p2 l2 = true) : RStep rk6Ops Q (fun i => ((rk6Es F p l k p1 l1 r1 p2 l2 r2)[i]?).getD .any) (fun i => (rk6Ds[i]?).getD (1000 + i)) (look (rk6Env F p l k p1 l1 r1 p2 l2 r2)) 62 7 := fun _ => step_row_at (k := k + 1) (r := r2) (by kernel_rfl) (Opd.dep 5 rfl rfl (by kernel_rfl)) (Opd.dep 6 rfl rfl (by kernel_rfl)) d2 rfl
theorem rk6_8 {Q : Exit → Act → World → Prop} (F : Fo) (p : Pay) (l : Fo) (k : Nat) (p1 : Pay) (l1 r1 : Fo) (p2 : Pay) (l2 r2 : Fo) (hk : k + 1 < 9223372036854775807) (d1 : Tm.dropF F (k + 1 - 1) = .node p1 l1 r1) (d2 : Tm.dropF F (k + 1) = .node p2 l2 r2) (g1 : Tm.goodB p1 l1 = true) (g2 : Tm.goodB p2 l2 = true) : RStep rk6Ops Q (fun i => ((rk6Es F p l k p1 l1 r1 p2 l2 r2)[i]?).getD .any) (fun i => (rk6Ds[i]?).getD (1000 + i)) (look (rk6Env F p l k p1 l1 r1 p2 l2 r2)) 62 8 := fun _ => step_load_term (by kernel_rfl) (Opd.dep 7 rfl rfl (by kernel_rfl)) rfl
theorem rk6_9 {Q : Exit → Act → World → Prop} (F : Fo) (p : Pay) (l : Fo) (k : Nat) (p1 : Pay) (l1 r1 : Fo) (p2 : Pay) (l2 r2 : Fo) (hk : k + 1 < 9223372036854775807) (d1 : Tm.dropF F (k + 1 - 1) = .node p1 l1 r1) (d2 : Tm.dropF F (k + 1) = .node p2 l2 r2) (g1 : Tm.goodB p1 l1 = true) (g2 : Tm.goodB p2 l2 = true) : RStep rk6Ops Q (fun i => ((rk6Es F p l k p1 l1 r1 p2 l2 r2)[i]?).getD .any) (fun i => (rk6Ds[i]?).getD (1000 + i)) (look (rk6Env F p l k p1 l1 r1 p2 l2 r2)) 62 9 := fun _ => step_rcmpg g1 g2 (by kernel_rfl) (Opd.dep 4 rfl rfl (by kernel_rfl)) (Opd.dep 8 rfl rfl (by kernel_rfl)) rfl
theorem rk6_10 {Q : Exit → Act → World → Prop} (F : Fo) (p : Pay) (l : Fo) (k : Nat) (p1 : Pay) (l1 r1 : Fo) (p2 : Pay) (l2 r2 : Fo) (hk : k + 1 < 9223372036854775807) (d1 : Tm.dropF F (k + 1 - 1) = .node p1 l1 r1) (d2 : Tm.dropF F (k + 1) = .node p2 l2 r2) (g1 : Tm.goodB p1 l1 = true) (g2 : Tm.goodB p2 l2 = true) : RStep rk6Ops Q (fun i => ((rk6Es F p l k p1 l1 r1 p2 l2 r2)[i]?).getD .any) (fun i => (rk6Ds[i]?).getD (1000 + i)) (look (rk6Env F p l k p1 l1 r1 p2 l2 r2)) 62 10 := fun _ => step_ge_int (m := (Tm.cmpT p1 l1 p2 l2)) (n := 0) (by kernel_rfl) (Opd.dep 9 rfl rfl (by kernel_rfl)) (Opd.const _) rfl rfl
theorem rk6_region {Q : Exit → Act → World → Prop} (F : Fo) (p : Pay) (l : Fo) (k : Nat) (p1 : Pay) (l1 r1 : Fo) (p2 : Pay) (l2 r2 : Fo) (hk : k + 1 < 9223372036854775807) (d1 : Tm.dropF F (k + 1 - 1) = .node p1 l1 r1) (d2 : Tm.dropF F (k + 1) = .node p2 l2 r2) (g1 : Tm.goodB p1 l1 = true) (g2 : Tm.goodB p2 l2 = true) {w0 : World} {a : Act} {w : World} (h : Hold 62 [(0, .row F), (3, .ptrT p l), (6, .val (.int .i64 ((k + 1 : Nat) : Int)))] w0 a w)
    (hQ : ∀ a' w', Hold 62 [(0, .row F), (3, .ptrT p l), (6, .val (.int .i64 ((k + 1 : Nat) : Int))), (32, .val (.bool (decide (0 ≤ (Tm.cmpT p1 l1 p2 l2)))))] w0 a' w' → Q .normal a' w') : (Code.region 6 rk6Ops true).wp Tryd.prog Q a w := by
  have hall : ∀ i, i < 0 → RStep rk6Ops Q (fun i => ((rk6Es F p l k p1 l1 r1 p2 l2 r2)[i]?).getD .any) (fun i => (rk6Ds[i]?).getD (1000 + i)) (look (rk6Env F p l k p1 l1 r1 p2 l2 r2)) 62 i := fun i hi => absurd hi (by omega)
  have hall := below_succ hall (rk6_0 F p l k p1 l1 r1 p2 l2 r2 hk d1 d2 g1 g2)
  have hall := below_succ hall (rk6_1 F p l k p1 l1 r1 p2 l2 r2 hk d1 d2 g1 g2)
  have hall := below_succ hall (rk6_2 F p l k p1 l1 r1 p2 l2 r2 hk d1 d2 g1 g2)
  have hall := below_succ hall (rk6_3 F p l k p1 l1 r1 p2 l2 r2 hk d1 d2 g1 g2)
  have hall := below_succ hall (rk6_4 F p l k p1 l1 r1 p2 l2 r2 hk d1 d2 g1 g2)
  have hall := below_succ hall (rk6_5 F p l k p1 l1 r1 p2 l2 r2 hk d1 d2 g1 g2)
  have hall := below_succ hall (rk6_6 F p l k p1 l1 r1 p2 l2 r2 hk d1 d2 g1 g2)
  have hall := below_succ hall (rk6_7 F p l k p1 l1 r1 p2 l2 r2 hk d1 d2 g1 g2)
  have hall := below_succ hall (rk6_8 F p l k p1 l1 r1 p2 l2 r2 hk d1 d2 g1 g2)
  have hall := below_succ hall (rk6_9 F p l k p1 l1 r1 p2 l2 r2 hk d1 d2 g1 g2)
  have hall := below_succ hall (rk6_10 F p l k p1 l1 r1 p2 l2 r2 hk d1 d2 g1 g2)
  refine env_any (env := rk6Env F p l k p1 l1 r1 p2 l2 r2) (N := 62) (w0 := w0) rk6Ds (rk6Es F p l k p1 l1 r1 p2 l2 r2) (by kernel_rfl) (by kernel_rfl) (of_decide_eq_true (by kernel_rfl)) (fun i_ hi_ => hall i_ (by rw [show (rk6Es F p l k p1 l1 r1 p2 l2 r2).length = 11 by kernel_rfl] at hi_; exact hi_)) h fun a' w' h => ?_
  exact hQ a' w' (h.keep [0, 3, 6, 32])
theorem rk7_region {Q : Exit → Act → World → Prop} (F : Fo) (p : Pay) (l : Fo) (k : Nat)  {w0 : World} {a : Act} {w : World} (h : Hold 62 [(0, .row F), (3, .ptrT p l), (6, .val (.int .i64 ((k + 1 : Nat) : Int)))] w0 a w)
    (hQ : ∀ a' w', Hold 62 [(4, .val (.int .i64 0)), (5, .val (.bool false))] w0 a' w' → Q .normal a' w') : (Code.region 7 rk7Ops false).wp Tryd.prog Q a w := by
  refine region_seq (w0 := w) 2 (by kernel_rfl) ?_
  rw [show List.range 2 = [0, 1] from rfl]
  refine env_one (i := 0) (d := 4) (k := .val (.int .i64 0)) (step_assign (by kernel_rfl) (Opd.const _) rfl) (by kernel_rfl) (by decide) h ?_
  clear h
  intro a w h
  refine env_one (i := 1) (d := 5) (k := .val (.bool false)) (step_assign (by kernel_rfl) (Opd.const _) rfl) (by kernel_rfl) (by decide) h ?_
  clear h
  intro a w h
  exact hQ a w (h.keep [4, 5])
theorem rk5_region {Q : Exit → Act → World → Prop} (F : Fo) (p : Pay) (l : Fo) (k : Nat) (hk : k + 1 < 9223372036854775807) {w0 : World} {a : Act} {w : World} (h : Hold 62 [(0, .row F), (3, .ptrT p l), (6, .val (.int .i64 ((k + 1 : Nat) : Int)))] w0 a w)
    (hQ : ∀ a' w', Hold 62 [(0, .row F), (3, .ptrT p l), (6, .val (.int .i64 (((k + 1) + 1 : Nat) : Int)))] w0 a' w' → Q .normal a' w') : (Code.region 5 rk5Ops false).wp Tryd.prog Q a w := by
  refine region_seq (w0 := w) 3 (by kernel_rfl) ?_
  rw [show List.range 3 = [0, 1, 2] from rfl]
  refine env_one (i := 0) (d := 20) (k := .val (.int .i64 ((k + 1 : Nat) : Int))) (step_move (by kernel_rfl) (Opd.of_base 6 rfl) rfl) (by kernel_rfl) (by decide) h ?_
  clear h
  intro a w h
  refine env_one (i := 1) (d := 21) (k := .val (.int .i64 (((k + 1) + 1 : Nat) : Int))) (step_add (m := ((k + 1 : Nat) : Int)) (n := 1) (s := (((k + 1) + 1 : Nat) : Int)) (by kernel_rfl) (Opd.of_base 20 rfl) (Opd.const _) (by rw [IntKind.wrap_i64]; omega) rfl) (by kernel_rfl) (by decide) h ?_
  clear h
  intro a w h
  refine env_one (i := 2) (d := 6) (k := .val (.int .i64 (((k + 1) + 1 : Nat) : Int))) (step_assign (by kernel_rfl) (Opd.of_base 21 rfl) rfl) (by kernel_rfl) (by decide) h ?_
  clear h
  intro a w h
  exact hQ a w (h.keep [0, 3, 6])
theorem rk8_region {Q : Exit → Act → World → Prop} (F : Fo) (p : Pay) (l : Fo)  {w0 : World} {a : Act} {w : World} (h : Hold 62 [(0, .row F), (3, .ptrT p l)] w0 a w)
    (hQ : ∀ a' w', Hold 62 [(0, .row F), (3, .ptrT p l), (7, .val (.int .i64 0))] w0 a' w' → Q .normal a' w') : (Code.region 8 rk8Ops false).wp Tryd.prog Q a w := by
  refine region_seq (w0 := w) 1 (by kernel_rfl) ?_
  rw [show List.range 1 = [0] from rfl]
  refine env_one (i := 0) (d := 7) (k := .val (.int .i64 0)) (step_assign (by kernel_rfl) (Opd.const _) rfl) (by kernel_rfl) (by decide) h ?_
  clear h
  intro a w h
  exact hQ a w (h.keep [0, 3, 7])
def rk9nEs (F : Fo) (p : Pay) (l : Fo) (k : Nat) : List Kd := [
  .val (.int .i64 ((k : Nat) : Int)),
  .row F,
  .val (.int .i64 ((Tm.len F : Nat) : Int)),
  .val (.bool false),
  .val (.bool false),
  .val undef,
  .val undef,
  .val undef,
  .val undef,
  .val undef,
  .val undef,
  .val undef,
  .val (.bool false)]
def rk9nDs : List Nat := [33, 34, 35, 36, 37, 38, 39, 40, 41, 42, 43, 44, 45]
def rk9nEnv (F : Fo) (p : Pay) (l : Fo) (k : Nat) : Env := [(0, .row F), (3, .ptrT p l), (7, .val (.int .i64 ((k : Nat) : Int)))]
theorem rk9n_0 {Q : Exit → Act → World → Prop} (F : Fo) (p : Pay) (l : Fo) (k : Nat) (hk : ¬ k < Tm.len F) : RStep rk9Ops Q (fun i => ((rk9nEs F p l k)[i]?).getD .any) (fun i => (rk9nDs[i]?).getD (1000 + i)) (look (rk9nEnv F p l k)) 62 0 := fun _ => step_move (by kernel_rfl) (Opd.of_base 7 rfl) rfl
theorem rk9n_1 {Q : Exit → Act → World → Prop} (F : Fo) (p : Pay) (l : Fo) (k : Nat) (hk : ¬ k < Tm.len F) : RStep rk9Ops Q (fun i => ((rk9nEs F p l k)[i]?).getD .any) (fun i => (rk9nDs[i]?).getD (1000 + i)) (look (rk9nEnv F p l k)) 62 1 := fun _ => step_move (by kernel_rfl) (Opd.of_base 0 rfl) rfl
theorem rk9n_2 {Q : Exit → Act → World → Prop} (F : Fo) (p : Pay) (l : Fo) (k : Nat) (hk : ¬ k < Tm.len F) : RStep rk9Ops Q (fun i => ((rk9nEs F p l k)[i]?).getD .any) (fun i => (rk9nDs[i]?).getD (1000 + i)) (look (rk9nEnv F p l k)) 62 2 := fun _ => step_len_row (by kernel_rfl) (Opd.dep 1 rfl rfl (by kernel_rfl)) rfl
theorem rk9n_3 {Q : Exit → Act → World → Prop} (F : Fo) (p : Pay) (l : Fo) (k : Nat) (hk : ¬ k < Tm.len F) : RStep rk9Ops Q (fun i => ((rk9nEs F p l k)[i]?).getD .any) (fun i => (rk9nDs[i]?).getD (1000 + i)) (look (rk9nEnv F p l k)) 62 3 := fun _ => step_lt_int (m := ((k : Nat) : Int)) (n := ((Tm.len F : Nat) : Int)) (by kernel_rfl) (Opd.dep 0 rfl rfl (by kernel_rfl)) (Opd.dep 2 rfl rfl (by kernel_rfl)) (decide_eq_false (by omega)) rfl
theorem rk9n_4 {Q : Exit → Act → World → Prop} (F : Fo) (p : Pay) (l : Fo) (k : Nat) (hk : ¬ k < Tm.len F) : RStep rk9Ops Q (fun i => ((rk9nEs F p l k)[i]?).getD .any) (fun i => (rk9nDs[i]?).getD (1000 + i)) (look (rk9nEnv F p l k)) 62 4 := fun _ => step_move (by kernel_rfl) (Opd.dep 3 rfl rfl (by kernel_rfl)) rfl
theorem rk9n_5 {Q : Exit → Act → World → Prop} (F : Fo) (p : Pay) (l : Fo) (k : Nat) (hk : ¬ k < Tm.len F) : RStep rk9Ops Q (fun i => ((rk9nEs F p l k)[i]?).getD .any) (fun i => (rk9nDs[i]?).getD (1000 + i)) (look (rk9nEnv F p l k)) 62 5 := rstep_skip (by kernel_rfl)
theorem rk9n_6 {Q : Exit → Act → World → Prop} (F : Fo) (p : Pay) (l : Fo) (k : Nat) (hk : ¬ k < Tm.len F) : RStep rk9Ops Q (fun i => ((rk9nEs F p l k)[i]?).getD .any) (fun i => (rk9nDs[i]?).getD (1000 + i)) (look (rk9nEnv F p l k)) 62 6 := rstep_skip (by kernel_rfl)
theorem rk9n_7 {Q : Exit → Act → World → Prop} (F : Fo) (p : Pay) (l : Fo) (k : Nat) (hk : ¬ k < Tm.len F) : RStep rk9Ops Q (fun i => ((rk9nEs F p l k)[i]?).getD .any) (fun i => (rk9nDs[i]?).getD (1000 + i)) (look (rk9nEnv F p l k)) 62 7 := rstep_skip (by kernel_rfl)
theorem rk9n_8 {Q : Exit → Act → World → Prop} (F : Fo) (p : Pay) (l : Fo) (k : Nat) (hk : ¬ k < Tm.len F) : RStep rk9Ops Q (fun i => ((rk9nEs F p l k)[i]?).getD .any) (fun i => (rk9nDs[i]?).getD (1000 + i)) (look (rk9nEnv F p l k)) 62 8 := rstep_skip (by kernel_rfl)
theorem rk9n_9 {Q : Exit → Act → World → Prop} (F : Fo) (p : Pay) (l : Fo) (k : Nat) (hk : ¬ k < Tm.len F) : RStep rk9Ops Q (fun i => ((rk9nEs F p l k)[i]?).getD .any) (fun i => (rk9nDs[i]?).getD (1000 + i)) (look (rk9nEnv F p l k)) 62 9 := rstep_skip (by kernel_rfl)
theorem rk9n_10 {Q : Exit → Act → World → Prop} (F : Fo) (p : Pay) (l : Fo) (k : Nat) (hk : ¬ k < Tm.len F) : RStep rk9Ops Q (fun i => ((rk9nEs F p l k)[i]?).getD .any) (fun i => (rk9nDs[i]?).getD (1000 + i)) (look (rk9nEnv F p l k)) 62 10 := rstep_skip (by kernel_rfl)
theorem rk9n_11 {Q : Exit → Act → World → Prop} (F : Fo) (p : Pay) (l : Fo) (k : Nat) (hk : ¬ k < Tm.len F) : RStep rk9Ops Q (fun i => ((rk9nEs F p l k)[i]?).getD .any) (fun i => (rk9nDs[i]?).getD (1000 + i)) (look (rk9nEnv F p l k)) 62 11 := rstep_skip (by kernel_rfl)
theorem rk9n_12 {Q : Exit → Act → World → Prop} (F : Fo) (p : Pay) (l : Fo) (k : Nat) (hk : ¬ k < Tm.len F) : RStep rk9Ops Q (fun i => ((rk9nEs F p l k)[i]?).getD .any) (fun i => (rk9nDs[i]?).getD (1000 + i)) (look (rk9nEnv F p l k)) 62 12 := fun _ => step_pick_no (x := .tmp 44) (by kernel_rfl) (Opd.dep 4 rfl rfl (by kernel_rfl)) (Opd.const _) rfl
theorem rk9n_region {Q : Exit → Act → World → Prop} (F : Fo) (p : Pay) (l : Fo) (k : Nat) (hk : ¬ k < Tm.len F) {w0 : World} {a : Act} {w : World} (h : Hold 62 [(0, .row F), (3, .ptrT p l), (7, .val (.int .i64 ((k : Nat) : Int)))] w0 a w)
    (hQ : ∀ a' w', Hold 62 [(0, .row F), (3, .ptrT p l), (7, .val (.int .i64 ((k : Nat) : Int))), (45, .val (.bool false))] w0 a' w' → Q .normal a' w') : (Code.region 9 rk9Ops true).wp Tryd.prog Q a w := by
  have hall : ∀ i, i < 0 → RStep rk9Ops Q (fun i => ((rk9nEs F p l k)[i]?).getD .any) (fun i => (rk9nDs[i]?).getD (1000 + i)) (look (rk9nEnv F p l k)) 62 i := fun i hi => absurd hi (by omega)
  have hall := below_succ hall (rk9n_0 F p l k hk)
  have hall := below_succ hall (rk9n_1 F p l k hk)
  have hall := below_succ hall (rk9n_2 F p l k hk)
  have hall := below_succ hall (rk9n_3 F p l k hk)
  have hall := below_succ hall (rk9n_4 F p l k hk)
  have hall := below_succ hall (rk9n_5 F p l k hk)
  have hall := below_succ hall (rk9n_6 F p l k hk)
  have hall := below_succ hall (rk9n_7 F p l k hk)
  have hall := below_succ hall (rk9n_8 F p l k hk)
  have hall := below_succ hall (rk9n_9 F p l k hk)
  have hall := below_succ hall (rk9n_10 F p l k hk)
  have hall := below_succ hall (rk9n_11 F p l k hk)
  have hall := below_succ hall (rk9n_12 F p l k hk)
  refine env_any (env := rk9nEnv F p l k) (N := 62) (w0 := w0) rk9nDs (rk9nEs F p l k) (by kernel_rfl) (by kernel_rfl) (of_decide_eq_true (by kernel_rfl)) (fun i_ hi_ => hall i_ (by rw [show (rk9nEs F p l k).length = 13 by kernel_rfl] at hi_; exact hi_)) h fun a' w' h => ?_
  exact hQ a' w' (h.keep [0, 3, 7, 45])
def rk9yEs (F : Fo) (p : Pay) (l : Fo) (k : Nat) (p1 : Pay) (l1 r1 : Fo) : List Kd := [
  .val (.int .i64 ((k : Nat) : Int)),
  .row F,
  .val (.int .i64 ((Tm.len F : Nat) : Int)),
  .val (.bool true),
  .val (.bool true),
  .row F,
  .val (.int .i64 ((k : Nat) : Int)),
  .ptrT p1 l1,
  .term p1 l1,
  .term p l,
  .val (.int .i64 (Tm.cmpT p1 l1 p l)),
  .val (.bool (decide ((Tm.cmpT p1 l1 p l) < 0))),
  .val (.bool (decide ((Tm.cmpT p1 l1 p l) < 0)))]
def rk9yDs : List Nat := [33, 34, 35, 36, 37, 38, 39, 40, 41, 42, 43, 44, 45]
def rk9yEnv (F : Fo) (p : Pay) (l : Fo) (k : Nat) (p1 : Pay) (l1 r1 : Fo) : Env := [(0, .row F), (3, .ptrT p l), (7, .val (.int .i64 ((k : Nat) : Int)))]
theorem rk9y_0 {Q : Exit → Act → World → Prop} (F : Fo) (p : Pay) (l : Fo) (k : Nat) (p1 : Pay) (l1 r1 : Fo) (hk : k < Tm.len F) (d1 : Tm.dropF F k = .node p1 l1 r1) (g1 : Tm.goodB p1 l1 = true) (g0 : Tm.goodB p l = true) : RStep rk9Ops Q (fun i => ((rk9yEs F p l k p1 l1 r1)[i]?).getD .any) (fun i => (rk9yDs[i]?).getD (1000 + i)) (look (rk9yEnv F p l k p1 l1 r1)) 62 0 := fun _ => step_move (by kernel_rfl) (Opd.of_base 7 rfl) rfl
theorem rk9y_1 {Q : Exit → Act → World → Prop} (F : Fo) (p : Pay) (l : Fo) (k : Nat) (p1 : Pay) (l1 r1 : Fo) (hk : k < Tm.len F) (d1 : Tm.dropF F k = .node p1 l1 r1) (g1 : Tm.goodB p1 l1 = true) (g0 : Tm.goodB p l = true) : RStep rk9Ops Q (fun i => ((rk9yEs F p l k p1 l1 r1)[i]?).getD .any) (fun i => (rk9yDs[i]?).getD (1000 + i)) (look (rk9yEnv F p l k p1 l1 r1)) 62 1 := fun _ => step_move (by kernel_rfl) (Opd.of_base 0 rfl) rfl
theorem rk9y_2 {Q : Exit → Act → World → Prop} (F : Fo) (p : Pay) (l : Fo) (k : Nat) (p1 : Pay) (l1 r1 : Fo) (hk : k < Tm.len F) (d1 : Tm.dropF F k = .node p1 l1 r1) (g1 : Tm.goodB p1 l1 = true) (g0 : Tm.goodB p l = true) : RStep rk9Ops Q (fun i => ((rk9yEs F p l k p1 l1 r1)[i]?).getD .any) (fun i => (rk9yDs[i]?).getD (1000 + i)) (look (rk9yEnv F p l k p1 l1 r1)) 62 2 := fun _ => step_len_row (by kernel_rfl) (Opd.dep 1 rfl rfl (by kernel_rfl)) rfl
theorem rk9y_3 {Q : Exit → Act → World → Prop} (F : Fo) (p : Pay) (l : Fo) (k : Nat) (p1 : Pay) (l1 r1 : Fo) (hk : k < Tm.len F) (d1 : Tm.dropF F k = .node p1 l1 r1) (g1 : Tm.goodB p1 l1 = true) (g0 : Tm.goodB p l = true) : RStep rk9Ops Q (fun i => ((rk9yEs F p l k p1 l1 r1)[i]?).getD .any) (fun i => (rk9yDs[i]?).getD (1000 + i)) (look (rk9yEnv F p l k p1 l1 r1)) 62 3 := fun _ => step_lt_int (m := ((k : Nat) : Int)) (n := ((Tm.len F : Nat) : Int)) (by kernel_rfl) (Opd.dep 0 rfl rfl (by kernel_rfl)) (Opd.dep 2 rfl rfl (by kernel_rfl)) (decide_eq_true (by omega)) rfl
theorem rk9y_4 {Q : Exit → Act → World → Prop} (F : Fo) (p : Pay) (l : Fo) (k : Nat) (p1 : Pay) (l1 r1 : Fo) (hk : k < Tm.len F) (d1 : Tm.dropF F k = .node p1 l1 r1) (g1 : Tm.goodB p1 l1 = true) (g0 : Tm.goodB p l = true) : RStep rk9Ops Q (fun i => ((rk9yEs F p l k p1 l1 r1)[i]?).getD .any) (fun i => (rk9yDs[i]?).getD (1000 + i)) (look (rk9yEnv F p l k p1 l1 r1)) 62 4 := fun _ => step_move (by kernel_rfl) (Opd.dep 3 rfl rfl (by kernel_rfl)) rfl
theorem rk9y_5 {Q : Exit → Act → World → Prop} (F : Fo) (p : Pay) (l : Fo) (k : Nat) (p1 : Pay) (l1 r1 : Fo) (hk : k < Tm.len F) (d1 : Tm.dropF F k = .node p1 l1 r1) (g1 : Tm.goodB p1 l1 = true) (g0 : Tm.goodB p l = true) : RStep rk9Ops Q (fun i => ((rk9yEs F p l k p1 l1 r1)[i]?).getD .any) (fun i => (rk9yDs[i]?).getD (1000 + i)) (look (rk9yEnv F p l k p1 l1 r1)) 62 5 := fun _ => step_move (by kernel_rfl) (Opd.of_base 0 rfl) rfl
theorem rk9y_6 {Q : Exit → Act → World → Prop} (F : Fo) (p : Pay) (l : Fo) (k : Nat) (p1 : Pay) (l1 r1 : Fo) (hk : k < Tm.len F) (d1 : Tm.dropF F k = .node p1 l1 r1) (g1 : Tm.goodB p1 l1 = true) (g0 : Tm.goodB p l = true) : RStep rk9Ops Q (fun i => ((rk9yEs F p l k p1 l1 r1)[i]?).getD .any) (fun i => (rk9yDs[i]?).getD (1000 + i)) (look (rk9yEnv F p l k p1 l1 r1)) 62 6 := fun _ => step_move (by kernel_rfl) (Opd.of_base 7 rfl) rfl
theorem rk9y_7 {Q : Exit → Act → World → Prop} (F : Fo) (p : Pay) (l : Fo) (k : Nat) (p1 : Pay) (l1 r1 : Fo) (hk : k < Tm.len F) (d1 : Tm.dropF F k = .node p1 l1 r1) (g1 : Tm.goodB p1 l1 = true) (g0 : Tm.goodB p l = true) : RStep rk9Ops Q (fun i => ((rk9yEs F p l k p1 l1 r1)[i]?).getD .any) (fun i => (rk9yDs[i]?).getD (1000 + i)) (look (rk9yEnv F p l k p1 l1 r1)) 62 7 := fun _ => step_row_at (k := k) (r := r1) (by kernel_rfl) (Opd.dep 5 rfl rfl (by kernel_rfl)) (Opd.dep 6 rfl rfl (by kernel_rfl)) d1 rfl
theorem rk9y_8 {Q : Exit → Act → World → Prop} (F : Fo) (p : Pay) (l : Fo) (k : Nat) (p1 : Pay) (l1 r1 : Fo) (hk : k < Tm.len F) (d1 : Tm.dropF F k = .node p1 l1 r1) (g1 : Tm.goodB p1 l1 = true) (g0 : Tm.goodB p l = true) : RStep rk9Ops Q (fun i => ((rk9yEs F p l k p1 l1 r1)[i]?).getD .any) (fun i => (rk9yDs[i]?).getD (1000 + i)) (look (rk9yEnv F p l k p1 l1 r1)) 62 8 := fun _ => step_load_term (by kernel_rfl) (Opd.dep 7 rfl rfl (by kernel_rfl)) rfl
theorem rk9y_9 {Q : Exit → Act → World → Prop} (F : Fo) (p : Pay) (l : Fo) (k : Nat) (p1 : Pay) (l1 r1 : Fo) (hk : k < Tm.len F) (d1 : Tm.dropF F k = .node p1 l1 r1) (g1 : Tm.goodB p1 l1 = true) (g0 : Tm.goodB p l = true) : RStep rk9Ops Q (fun i => ((rk9yEs F p l k p1 l1 r1)[i]?).getD .any) (fun i => (rk9yDs[i]?).getD (1000 + i)) (look (rk9yEnv F p l k p1 l1 r1)) 62 9 := fun _ => step_load_term (by kernel_rfl) (Opd.of_base 3 rfl) rfl
theorem rk9y_10 {Q : Exit → Act → World → Prop} (F : Fo) (p : Pay) (l : Fo) (k : Nat) (p1 : Pay) (l1 r1 : Fo) (hk : k < Tm.len F) (d1 : Tm.dropF F k = .node p1 l1 r1) (g1 : Tm.goodB p1 l1 = true) (g0 : Tm.goodB p l = true) : RStep rk9Ops Q (fun i => ((rk9yEs F p l k p1 l1 r1)[i]?).getD .any) (fun i => (rk9yDs[i]?).getD (1000 + i)) (look (rk9yEnv F p l k p1 l1 r1)) 62 10 := fun _ => step_rcmpg g1 g0 (by kernel_rfl) (Opd.dep 8 rfl rfl (by kernel_rfl)) (Opd.dep 9 rfl rfl (by kernel_rfl)) rfl
theorem rk9y_11 {Q : Exit → Act → World → Prop} (F : Fo) (p : Pay) (l : Fo) (k : Nat) (p1 : Pay) (l1 r1 : Fo) (hk : k < Tm.len F) (d1 : Tm.dropF F k = .node p1 l1 r1) (g1 : Tm.goodB p1 l1 = true) (g0 : Tm.goodB p l = true) : RStep rk9Ops Q (fun i => ((rk9yEs F p l k p1 l1 r1)[i]?).getD .any) (fun i => (rk9yDs[i]?).getD (1000 + i)) (look (rk9yEnv F p l k p1 l1 r1)) 62 11 := fun _ => step_lt_int (m := (Tm.cmpT p1 l1 p l)) (n := 0) (by kernel_rfl) (Opd.dep 10 rfl rfl (by kernel_rfl)) (Opd.const _) rfl rfl
theorem rk9y_12 {Q : Exit → Act → World → Prop} (F : Fo) (p : Pay) (l : Fo) (k : Nat) (p1 : Pay) (l1 r1 : Fo) (hk : k < Tm.len F) (d1 : Tm.dropF F k = .node p1 l1 r1) (g1 : Tm.goodB p1 l1 = true) (g0 : Tm.goodB p l = true) : RStep rk9Ops Q (fun i => ((rk9yEs F p l k p1 l1 r1)[i]?).getD .any) (fun i => (rk9yDs[i]?).getD (1000 + i)) (look (rk9yEnv F p l k p1 l1 r1)) 62 12 := fun _ => step_pick_yes (y := .const (.bool false)) (by kernel_rfl) (Opd.dep 4 rfl rfl (by kernel_rfl)) (Opd.dep 11 rfl rfl (by kernel_rfl)) rfl
theorem rk9y_region {Q : Exit → Act → World → Prop} (F : Fo) (p : Pay) (l : Fo) (k : Nat) (p1 : Pay) (l1 r1 : Fo) (hk : k < Tm.len F) (d1 : Tm.dropF F k = .node p1 l1 r1) (g1 : Tm.goodB p1 l1 = true) (g0 : Tm.goodB p l = true) {w0 : World} {a : Act} {w : World} (h : Hold 62 [(0, .row F), (3, .ptrT p l), (7, .val (.int .i64 ((k : Nat) : Int)))] w0 a w)
    (hQ : ∀ a' w', Hold 62 [(0, .row F), (3, .ptrT p l), (7, .val (.int .i64 ((k : Nat) : Int))), (45, .val (.bool (decide ((Tm.cmpT p1 l1 p l) < 0))))] w0 a' w' → Q .normal a' w') : (Code.region 9 rk9Ops true).wp Tryd.prog Q a w := by
  have hall : ∀ i, i < 0 → RStep rk9Ops Q (fun i => ((rk9yEs F p l k p1 l1 r1)[i]?).getD .any) (fun i => (rk9yDs[i]?).getD (1000 + i)) (look (rk9yEnv F p l k p1 l1 r1)) 62 i := fun i hi => absurd hi (by omega)
  have hall := below_succ hall (rk9y_0 F p l k p1 l1 r1 hk d1 g1 g0)
  have hall := below_succ hall (rk9y_1 F p l k p1 l1 r1 hk d1 g1 g0)
  have hall := below_succ hall (rk9y_2 F p l k p1 l1 r1 hk d1 g1 g0)
  have hall := below_succ hall (rk9y_3 F p l k p1 l1 r1 hk d1 g1 g0)
  have hall := below_succ hall (rk9y_4 F p l k p1 l1 r1 hk d1 g1 g0)
  have hall := below_succ hall (rk9y_5 F p l k p1 l1 r1 hk d1 g1 g0)
  have hall := below_succ hall (rk9y_6 F p l k p1 l1 r1 hk d1 g1 g0)
  have hall := below_succ hall (rk9y_7 F p l k p1 l1 r1 hk d1 g1 g0)
  have hall := below_succ hall (rk9y_8 F p l k p1 l1 r1 hk d1 g1 g0)
  have hall := below_succ hall (rk9y_9 F p l k p1 l1 r1 hk d1 g1 g0)
  have hall := below_succ hall (rk9y_10 F p l k p1 l1 r1 hk d1 g1 g0)
  have hall := below_succ hall (rk9y_11 F p l k p1 l1 r1 hk d1 g1 g0)
  have hall := below_succ hall (rk9y_12 F p l k p1 l1 r1 hk d1 g1 g0)
  refine env_any (env := rk9yEnv F p l k p1 l1 r1) (N := 62) (w0 := w0) rk9yDs (rk9yEs F p l k p1 l1 r1) (by kernel_rfl) (by kernel_rfl) (of_decide_eq_true (by kernel_rfl)) (fun i_ hi_ => hall i_ (by rw [show (rk9yEs F p l k p1 l1 r1).length = 13 by kernel_rfl] at hi_; exact hi_)) h fun a' w' h => ?_
  exact hQ a' w' (h.keep [0, 3, 7, 45])
theorem rk10_region {Q : Exit → Act → World → Prop} (F : Fo) (p : Pay) (l : Fo) (k : Nat) (hk : k < 9223372036854775807) {w0 : World} {a : Act} {w : World} (h : Hold 62 [(0, .row F), (3, .ptrT p l), (7, .val (.int .i64 ((k : Nat) : Int)))] w0 a w)
    (hQ : ∀ a' w', Hold 62 [(0, .row F), (3, .ptrT p l), (7, .val (.int .i64 ((k + 1 : Nat) : Int)))] w0 a' w' → Q .normal a' w') : (Code.region 10 rk10Ops false).wp Tryd.prog Q a w := by
  refine region_seq (w0 := w) 3 (by kernel_rfl) ?_
  rw [show List.range 3 = [0, 1, 2] from rfl]
  refine env_one (i := 0) (d := 46) (k := .val (.int .i64 ((k : Nat) : Int))) (step_move (by kernel_rfl) (Opd.of_base 7 rfl) rfl) (by kernel_rfl) (by decide) h ?_
  clear h
  intro a w h
  refine env_one (i := 1) (d := 47) (k := .val (.int .i64 ((k + 1 : Nat) : Int))) (step_add (m := ((k : Nat) : Int)) (n := 1) (s := ((k + 1 : Nat) : Int)) (by kernel_rfl) (Opd.of_base 46 rfl) (Opd.const _) (by rw [IntKind.wrap_i64]; omega) rfl) (by kernel_rfl) (by decide) h ?_
  clear h
  intro a w h
  refine env_one (i := 2) (d := 7) (k := .val (.int .i64 ((k + 1 : Nat) : Int))) (step_assign (by kernel_rfl) (Opd.of_base 47 rfl) rfl) (by kernel_rfl) (by decide) h ?_
  clear h
  intro a w h
  exact hQ a w (h.keep [0, 3, 7])
def rk11nEs (F : Fo) (p : Pay) (l : Fo) (k : Nat) : List Kd := [
  .val (.int .i64 ((k : Nat) : Int)),
  .val (.int .i64 ((k : Nat) : Int)),
  .row F,
  .val (.int .i64 ((Tm.len F : Nat) : Int)),
  .val (.bool false),
  .val (.bool false),
  .val undef,
  .val undef,
  .val undef,
  .val undef,
  .val undef,
  .val undef,
  .val undef,
  .val (.bool false),
  .val (.int .i64 ((k : Nat) : Int)),
  .val (.bool false)]
def rk11nDs : List Nat := [48, 49, 50, 51, 52, 53, 54, 55, 56, 57, 58, 59, 60, 61, 4, 5]
def rk11nEnv (F : Fo) (p : Pay) (l : Fo) (k : Nat) : Env := [(0, .row F), (3, .ptrT p l), (7, .val (.int .i64 ((k : Nat) : Int)))]
theorem rk11n_0 {Q : Exit → Act → World → Prop} (F : Fo) (p : Pay) (l : Fo) (k : Nat) (hk : ¬ k < Tm.len F) : RStep (strip rk11Ops) Q (fun i => ((rk11nEs F p l k)[i]?).getD .any) (fun i => (rk11nDs[i]?).getD (1000 + i)) (look (rk11nEnv F p l k)) 62 0 := fun _ => step_move (by kernel_rfl) (Opd.of_base 7 rfl) rfl
theorem rk11n_1 {Q : Exit → Act → World → Prop} (F : Fo) (p : Pay) (l : Fo) (k : Nat) (hk : ¬ k < Tm.len F) : RStep (strip rk11Ops) Q (fun i => ((rk11nEs F p l k)[i]?).getD .any) (fun i => (rk11nDs[i]?).getD (1000 + i)) (look (rk11nEnv F p l k)) 62 1 := fun _ => step_move (by kernel_rfl) (Opd.of_base 7 rfl) rfl
theorem rk11n_2 {Q : Exit → Act → World → Prop} (F : Fo) (p : Pay) (l : Fo) (k : Nat) (hk : ¬ k < Tm.len F) : RStep (strip rk11Ops) Q (fun i => ((rk11nEs F p l k)[i]?).getD .any) (fun i => (rk11nDs[i]?).getD (1000 + i)) (look (rk11nEnv F p l k)) 62 2 := fun _ => step_move (by kernel_rfl) (Opd.of_base 0 rfl) rfl
theorem rk11n_3 {Q : Exit → Act → World → Prop} (F : Fo) (p : Pay) (l : Fo) (k : Nat) (hk : ¬ k < Tm.len F) : RStep (strip rk11Ops) Q (fun i => ((rk11nEs F p l k)[i]?).getD .any) (fun i => (rk11nDs[i]?).getD (1000 + i)) (look (rk11nEnv F p l k)) 62 3 := fun _ => step_len_row (by kernel_rfl) (Opd.dep 2 rfl rfl (by kernel_rfl)) rfl
theorem rk11n_4 {Q : Exit → Act → World → Prop} (F : Fo) (p : Pay) (l : Fo) (k : Nat) (hk : ¬ k < Tm.len F) : RStep (strip rk11Ops) Q (fun i => ((rk11nEs F p l k)[i]?).getD .any) (fun i => (rk11nDs[i]?).getD (1000 + i)) (look (rk11nEnv F p l k)) 62 4 := fun _ => step_lt_int (m := ((k : Nat) : Int)) (n := ((Tm.len F : Nat) : Int)) (by kernel_rfl) (Opd.dep 1 rfl rfl (by kernel_rfl)) (Opd.dep 3 rfl rfl (by kernel_rfl)) (decide_eq_false (by omega)) rfl
theorem rk11n_5 {Q : Exit → Act → World → Prop} (F : Fo) (p : Pay) (l : Fo) (k : Nat) (hk : ¬ k < Tm.len F) : RStep (strip rk11Ops) Q (fun i => ((rk11nEs F p l k)[i]?).getD .any) (fun i => (rk11nDs[i]?).getD (1000 + i)) (look (rk11nEnv F p l k)) 62 5 := fun _ => step_move (by kernel_rfl) (Opd.dep 4 rfl rfl (by kernel_rfl)) rfl
theorem rk11n_6 {Q : Exit → Act → World → Prop} (F : Fo) (p : Pay) (l : Fo) (k : Nat) (hk : ¬ k < Tm.len F) : RStep (strip rk11Ops) Q (fun i => ((rk11nEs F p l k)[i]?).getD .any) (fun i => (rk11nDs[i]?).getD (1000 + i)) (look (rk11nEnv F p l k)) 62 6 := rstep_skip (by kernel_rfl)
theorem rk11n_7 {Q : Exit → Act → World → Prop} (F : Fo) (p : Pay) (l : Fo) (k : Nat) (hk : ¬ k < Tm.len F) : RStep (strip rk11Ops) Q (fun i => ((rk11nEs F p l k)[i]?).getD .any) (fun i => (rk11nDs[i]?).getD (1000 + i)) (look (rk11nEnv F p l k)) 62 7 := rstep_skip (by kernel_rfl)
theorem rk11n_8 {Q : Exit → Act → World → Prop} (F : Fo) (p : Pay) (l : Fo) (k : Nat) (hk : ¬ k < Tm.len F) : RStep (strip rk11Ops) Q (fun i => ((rk11nEs F p l k)[i]?).getD .any) (fun i => (rk11nDs[i]?).getD (1000 + i)) (look (rk11nEnv F p l k)) 62 8 := rstep_skip (by kernel_rfl)
theorem rk11n_9 {Q : Exit → Act → World → Prop} (F : Fo) (p : Pay) (l : Fo) (k : Nat) (hk : ¬ k < Tm.len F) : RStep (strip rk11Ops) Q (fun i => ((rk11nEs F p l k)[i]?).getD .any) (fun i => (rk11nDs[i]?).getD (1000 + i)) (look (rk11nEnv F p l k)) 62 9 := rstep_skip (by kernel_rfl)
theorem rk11n_10 {Q : Exit → Act → World → Prop} (F : Fo) (p : Pay) (l : Fo) (k : Nat) (hk : ¬ k < Tm.len F) : RStep (strip rk11Ops) Q (fun i => ((rk11nEs F p l k)[i]?).getD .any) (fun i => (rk11nDs[i]?).getD (1000 + i)) (look (rk11nEnv F p l k)) 62 10 := rstep_skip (by kernel_rfl)
theorem rk11n_11 {Q : Exit → Act → World → Prop} (F : Fo) (p : Pay) (l : Fo) (k : Nat) (hk : ¬ k < Tm.len F) : RStep (strip rk11Ops) Q (fun i => ((rk11nEs F p l k)[i]?).getD .any) (fun i => (rk11nDs[i]?).getD (1000 + i)) (look (rk11nEnv F p l k)) 62 11 := rstep_skip (by kernel_rfl)
theorem rk11n_12 {Q : Exit → Act → World → Prop} (F : Fo) (p : Pay) (l : Fo) (k : Nat) (hk : ¬ k < Tm.len F) : RStep (strip rk11Ops) Q (fun i => ((rk11nEs F p l k)[i]?).getD .any) (fun i => (rk11nDs[i]?).getD (1000 + i)) (look (rk11nEnv F p l k)) 62 12 := rstep_skip (by kernel_rfl)
theorem rk11n_13 {Q : Exit → Act → World → Prop} (F : Fo) (p : Pay) (l : Fo) (k : Nat) (hk : ¬ k < Tm.len F) : RStep (strip rk11Ops) Q (fun i => ((rk11nEs F p l k)[i]?).getD .any) (fun i => (rk11nDs[i]?).getD (1000 + i)) (look (rk11nEnv F p l k)) 62 13 := fun _ => step_pick_no (x := .tmp 60) (by kernel_rfl) (Opd.dep 5 rfl rfl (by kernel_rfl)) (Opd.const _) rfl
theorem rk11n_14 {Q : Exit → Act → World → Prop} (F : Fo) (p : Pay) (l : Fo) (k : Nat) (hk : ¬ k < Tm.len F) : RStep (strip rk11Ops) Q (fun i => ((rk11nEs F p l k)[i]?).getD .any) (fun i => (rk11nDs[i]?).getD (1000 + i)) (look (rk11nEnv F p l k)) 62 14 := fun _ => step_assign (by kernel_rfl) (Opd.dep 0 rfl rfl (by kernel_rfl)) rfl
theorem rk11n_15 {Q : Exit → Act → World → Prop} (F : Fo) (p : Pay) (l : Fo) (k : Nat) (hk : ¬ k < Tm.len F) : RStep (strip rk11Ops) Q (fun i => ((rk11nEs F p l k)[i]?).getD .any) (fun i => (rk11nDs[i]?).getD (1000 + i)) (look (rk11nEnv F p l k)) 62 15 := fun _ => step_assign (by kernel_rfl) (Opd.dep 13 rfl rfl (by kernel_rfl)) rfl
theorem rk11n_region {Q : Exit → Act → World → Prop} (F : Fo) (p : Pay) (l : Fo) (k : Nat) (hk : ¬ k < Tm.len F) {w0 : World} {a : Act} {w : World} (h : Hold 62 [(0, .row F), (3, .ptrT p l), (7, .val (.int .i64 ((k : Nat) : Int)))] w0 a w)
    (hQ : ∀ a' w', Hold 62 [(4, .val (.int .i64 ((k : Nat) : Int))), (5, .val (.bool false))] w0 a' w' → Q .normal a' w') : (Code.region 11 rk11Ops true).wp Tryd.prog Q a w := by
  have hall : ∀ i, i < 0 → RStep (strip rk11Ops) Q (fun i => ((rk11nEs F p l k)[i]?).getD .any) (fun i => (rk11nDs[i]?).getD (1000 + i)) (look (rk11nEnv F p l k)) 62 i := fun i hi => absurd hi (by omega)
  have hall := below_succ hall (rk11n_0 F p l k hk)
  have hall := below_succ hall (rk11n_1 F p l k hk)
  have hall := below_succ hall (rk11n_2 F p l k hk)
  have hall := below_succ hall (rk11n_3 F p l k hk)
  have hall := below_succ hall (rk11n_4 F p l k hk)
  have hall := below_succ hall (rk11n_5 F p l k hk)
  have hall := below_succ hall (rk11n_6 F p l k hk)
  have hall := below_succ hall (rk11n_7 F p l k hk)
  have hall := below_succ hall (rk11n_8 F p l k hk)
  have hall := below_succ hall (rk11n_9 F p l k hk)
  have hall := below_succ hall (rk11n_10 F p l k hk)
  have hall := below_succ hall (rk11n_11 F p l k hk)
  have hall := below_succ hall (rk11n_12 F p l k hk)
  have hall := below_succ hall (rk11n_13 F p l k hk)
  have hall := below_succ hall (rk11n_14 F p l k hk)
  have hall := below_succ hall (rk11n_15 F p l k hk)
  refine env_any4 (env := rk11nEnv F p l k) (N := 62) (w0 := w0) rk11nDs (rk11nEs F p l k) (by kernel_rfl) (by kernel_rfl) (of_decide_eq_true (by kernel_rfl)) (fun i_ hi_ => hall i_ (by rw [show (rk11nEs F p l k).length = 16 by kernel_rfl] at hi_; exact hi_)) h fun a' w' h => ?_
  exact hQ a' w' (h.keep [4, 5])
def rk11yEs (F : Fo) (p : Pay) (l : Fo) (k : Nat) (p1 : Pay) (l1 r1 : Fo) : List Kd := [
  .val (.int .i64 ((k : Nat) : Int)),
  .val (.int .i64 ((k : Nat) : Int)),
  .row F,
  .val (.int .i64 ((Tm.len F : Nat) : Int)),
  .val (.bool true),
  .val (.bool true),
  .row F,
  .val (.int .i64 ((k : Nat) : Int)),
  .ptrT p1 l1,
  .term p1 l1,
  .term p l,
  .val (.int .i64 (Tm.cmpT p1 l1 p l)),
  .val (.bool ((Tm.cmpT p1 l1 p l) == 0)),
  .val (.bool ((Tm.cmpT p1 l1 p l) == 0)),
  .val (.int .i64 ((k : Nat) : Int)),
  .val (.bool ((Tm.cmpT p1 l1 p l) == 0))]
def rk11yDs : List Nat := [48, 49, 50, 51, 52, 53, 54, 55, 56, 57, 58, 59, 60, 61, 4, 5]
def rk11yEnv (F : Fo) (p : Pay) (l : Fo) (k : Nat) (p1 : Pay) (l1 r1 : Fo) : Env := [(0, .row F), (3, .ptrT p l), (7, .val (.int .i64 ((k : Nat) : Int)))]
theorem rk11y_0 {Q : Exit → Act → World → Prop} (F : Fo) (p : Pay) (l : Fo) (k : Nat) (p1 : Pay) (l1 r1 : Fo) (hk : k < Tm.len F) (d1 : Tm.dropF F k = .node p1 l1 r1) (g1 : Tm.goodB p1 l1 = true) (g0 : Tm.goodB p l = true) : RStep (strip rk11Ops) Q (fun i => ((rk11yEs F p l k p1 l1 r1)[i]?).getD .any) (fun i => (rk11yDs[i]?).getD (1000 + i)) (look (rk11yEnv F p l k p1 l1 r1)) 62 0 := fun _ => step_move (by kernel_rfl) (Opd.of_base 7 rfl) rfl
theorem rk11y_1 {Q : Exit → Act → World → Prop} (F : Fo) (p : Pay) (l : Fo) (k : Nat) (p1 : Pay) (l1 r1 : Fo) (hk : k < Tm.len F) (d1 : Tm.dropF F k = .node p1 l1 r1) (g1 : Tm.goodB p1 l1 = true) (g0 : Tm.goodB p l = true) : RStep (strip rk11Ops) Q (fun i => ((rk11yEs F p l k p1 l1 r1)[i]?).getD .any) (fun i => (rk11yDs[i]?).getD (1000 + i)) (look (rk11yEnv F p l k p1 l1 r1)) 62 1 := fun _ => step_move (by kernel_rfl) (Opd.of_base 7 rfl) rfl
theorem rk11y_2 {Q : Exit → Act → World → Prop} (F : Fo) (p : Pay) (l : Fo) (k : Nat) (p1 : Pay) (l1 r1 : Fo) (hk : k < Tm.len F) (d1 : Tm.dropF F k = .node p1 l1 r1) (g1 : Tm.goodB p1 l1 = true) (g0 : Tm.goodB p l = true) : RStep (strip rk11Ops) Q (fun i => ((rk11yEs F p l k p1 l1 r1)[i]?).getD .any) (fun i => (rk11yDs[i]?).getD (1000 + i)) (look (rk11yEnv F p l k p1 l1 r1)) 62 2 := fun _ => step_move (by kernel_rfl) (Opd.of_base 0 rfl) rfl
theorem rk11y_3 {Q : Exit → Act → World → Prop} (F : Fo) (p : Pay) (l : Fo) (k : Nat) (p1 : Pay) (l1 r1 : Fo) (hk : k < Tm.len F) (d1 : Tm.dropF F k = .node p1 l1 r1) (g1 : Tm.goodB p1 l1 = true) (g0 : Tm.goodB p l = true) : RStep (strip rk11Ops) Q (fun i => ((rk11yEs F p l k p1 l1 r1)[i]?).getD .any) (fun i => (rk11yDs[i]?).getD (1000 + i)) (look (rk11yEnv F p l k p1 l1 r1)) 62 3 := fun _ => step_len_row (by kernel_rfl) (Opd.dep 2 rfl rfl (by kernel_rfl)) rfl
theorem rk11y_4 {Q : Exit → Act → World → Prop} (F : Fo) (p : Pay) (l : Fo) (k : Nat) (p1 : Pay) (l1 r1 : Fo) (hk : k < Tm.len F) (d1 : Tm.dropF F k = .node p1 l1 r1) (g1 : Tm.goodB p1 l1 = true) (g0 : Tm.goodB p l = true) : RStep (strip rk11Ops) Q (fun i => ((rk11yEs F p l k p1 l1 r1)[i]?).getD .any) (fun i => (rk11yDs[i]?).getD (1000 + i)) (look (rk11yEnv F p l k p1 l1 r1)) 62 4 := fun _ => step_lt_int (m := ((k : Nat) : Int)) (n := ((Tm.len F : Nat) : Int)) (by kernel_rfl) (Opd.dep 1 rfl rfl (by kernel_rfl)) (Opd.dep 3 rfl rfl (by kernel_rfl)) (decide_eq_true (by omega)) rfl
theorem rk11y_5 {Q : Exit → Act → World → Prop} (F : Fo) (p : Pay) (l : Fo) (k : Nat) (p1 : Pay) (l1 r1 : Fo) (hk : k < Tm.len F) (d1 : Tm.dropF F k = .node p1 l1 r1) (g1 : Tm.goodB p1 l1 = true) (g0 : Tm.goodB p l = true) : RStep (strip rk11Ops) Q (fun i => ((rk11yEs F p l k p1 l1 r1)[i]?).getD .any) (fun i => (rk11yDs[i]?).getD (1000 + i)) (look (rk11yEnv F p l k p1 l1 r1)) 62 5 := fun _ => step_move (by kernel_rfl) (Opd.dep 4 rfl rfl (by kernel_rfl)) rfl
theorem rk11y_6 {Q : Exit → Act → World → Prop} (F : Fo) (p : Pay) (l : Fo) (k : Nat) (p1 : Pay) (l1 r1 : Fo) (hk : k < Tm.len F) (d1 : Tm.dropF F k = .node p1 l1 r1) (g1 : Tm.goodB p1 l1 = true) (g0 : Tm.goodB p l = true) : RStep (strip rk11Ops) Q (fun i => ((rk11yEs F p l k p1 l1 r1)[i]?).getD .any) (fun i => (rk11yDs[i]?).getD (1000 + i)) (look (rk11yEnv F p l k p1 l1 r1)) 62 6 := fun _ => step_move (by kernel_rfl) (Opd.of_base 0 rfl) rfl
theorem rk11y_7 {Q : Exit → Act → World → Prop} (F : Fo) (p : Pay) (l : Fo) (k : Nat) (p1 : Pay) (l1 r1 : Fo) (hk : k < Tm.len F) (d1 : Tm.dropF F k = .node p1 l1 r1) (g1 : Tm.goodB p1 l1 = true) (g0 : Tm.goodB p l = true) : RStep (strip rk11Ops) Q (fun i => ((rk11yEs F p l k p1 l1 r1)[i]?).getD .any) (fun i => (rk11yDs[i]?).getD (1000 + i)) (look (rk11yEnv F p l k p1 l1 r1)) 62 7 := fun _ => step_move (by kernel_rfl) (Opd.of_base 7 rfl) rfl
theorem rk11y_8 {Q : Exit → Act → World → Prop} (F : Fo) (p : Pay) (l : Fo) (k : Nat) (p1 : Pay) (l1 r1 : Fo) (hk : k < Tm.len F) (d1 : Tm.dropF F k = .node p1 l1 r1) (g1 : Tm.goodB p1 l1 = true) (g0 : Tm.goodB p l = true) : RStep (strip rk11Ops) Q (fun i => ((rk11yEs F p l k p1 l1 r1)[i]?).getD .any) (fun i => (rk11yDs[i]?).getD (1000 + i)) (look (rk11yEnv F p l k p1 l1 r1)) 62 8 := fun _ => step_row_at (k := k) (r := r1) (by kernel_rfl) (Opd.dep 6 rfl rfl (by kernel_rfl)) (Opd.dep 7 rfl rfl (by kernel_rfl)) d1 rfl
theorem rk11y_9 {Q : Exit → Act → World → Prop} (F : Fo) (p : Pay) (l : Fo) (k : Nat) (p1 : Pay) (l1 r1 : Fo) (hk : k < Tm.len F) (d1 : Tm.dropF F k = .node p1 l1 r1) (g1 : Tm.goodB p1 l1 = true) (g0 : Tm.goodB p l = true) : RStep (strip rk11Ops) Q (fun i => ((rk11yEs F p l k p1 l1 r1)[i]?).getD .any) (fun i => (rk11yDs[i]?).getD (1000 + i)) (look (rk11yEnv F p l k p1 l1 r1)) 62 9 := fun _ => step_load_term (by kernel_rfl) (Opd.dep 8 rfl rfl (by kernel_rfl)) rfl
theorem rk11y_10 {Q : Exit → Act → World → Prop} (F : Fo) (p : Pay) (l : Fo) (k : Nat) (p1 : Pay) (l1 r1 : Fo) (hk : k < Tm.len F) (d1 : Tm.dropF F k = .node p1 l1 r1) (g1 : Tm.goodB p1 l1 = true) (g0 : Tm.goodB p l = true) : RStep (strip rk11Ops) Q (fun i => ((rk11yEs F p l k p1 l1 r1)[i]?).getD .any) (fun i => (rk11yDs[i]?).getD (1000 + i)) (look (rk11yEnv F p l k p1 l1 r1)) 62 10 := fun _ => step_load_term (by kernel_rfl) (Opd.of_base 3 rfl) rfl
theorem rk11y_11 {Q : Exit → Act → World → Prop} (F : Fo) (p : Pay) (l : Fo) (k : Nat) (p1 : Pay) (l1 r1 : Fo) (hk : k < Tm.len F) (d1 : Tm.dropF F k = .node p1 l1 r1) (g1 : Tm.goodB p1 l1 = true) (g0 : Tm.goodB p l = true) : RStep (strip rk11Ops) Q (fun i => ((rk11yEs F p l k p1 l1 r1)[i]?).getD .any) (fun i => (rk11yDs[i]?).getD (1000 + i)) (look (rk11yEnv F p l k p1 l1 r1)) 62 11 := fun _ => step_rcmpg g1 g0 (by kernel_rfl) (Opd.dep 9 rfl rfl (by kernel_rfl)) (Opd.dep 10 rfl rfl (by kernel_rfl)) rfl
theorem rk11y_12 {Q : Exit → Act → World → Prop} (F : Fo) (p : Pay) (l : Fo) (k : Nat) (p1 : Pay) (l1 r1 : Fo) (hk : k < Tm.len F) (d1 : Tm.dropF F k = .node p1 l1 r1) (g1 : Tm.goodB p1 l1 = true) (g0 : Tm.goodB p l = true) : RStep (strip rk11Ops) Q (fun i => ((rk11yEs F p l k p1 l1 r1)[i]?).getD .any) (fun i => (rk11yDs[i]?).getD (1000 + i)) (look (rk11yEnv F p l k p1 l1 r1)) 62 12 := fun _ => step_eqb_int (m := (Tm.cmpT p1 l1 p l)) (n := 0) (by kernel_rfl) (Opd.dep 11 rfl rfl (by kernel_rfl)) (Opd.const _) rfl rfl
theorem rk11y_13 {Q : Exit → Act → World → Prop} (F : Fo) (p : Pay) (l : Fo) (k : Nat) (p1 : Pay) (l1 r1 : Fo) (hk : k < Tm.len F) (d1 : Tm.dropF F k = .node p1 l1 r1) (g1 : Tm.goodB p1 l1 = true) (g0 : Tm.goodB p l = true) : RStep (strip rk11Ops) Q (fun i => ((rk11yEs F p l k p1 l1 r1)[i]?).getD .any) (fun i => (rk11yDs[i]?).getD (1000 + i)) (look (rk11yEnv F p l k p1 l1 r1)) 62 13 := fun _ => step_pick_yes (y := .const (.bool false)) (by kernel_rfl) (Opd.dep 5 rfl rfl (by kernel_rfl)) (Opd.dep 12 rfl rfl (by kernel_rfl)) rfl
theorem rk11y_14 {Q : Exit → Act → World → Prop} (F : Fo) (p : Pay) (l : Fo) (k : Nat) (p1 : Pay) (l1 r1 : Fo) (hk : k < Tm.len F) (d1 : Tm.dropF F k = .node p1 l1 r1) (g1 : Tm.goodB p1 l1 = true) (g0 : Tm.goodB p l = true) : RStep (strip rk11Ops) Q (fun i => ((rk11yEs F p l k p1 l1 r1)[i]?).getD .any) (fun i => (rk11yDs[i]?).getD (1000 + i)) (look (rk11yEnv F p l k p1 l1 r1)) 62 14 := fun _ => step_assign (by kernel_rfl) (Opd.dep 0 rfl rfl (by kernel_rfl)) rfl
theorem rk11y_15 {Q : Exit → Act → World → Prop} (F : Fo) (p : Pay) (l : Fo) (k : Nat) (p1 : Pay) (l1 r1 : Fo) (hk : k < Tm.len F) (d1 : Tm.dropF F k = .node p1 l1 r1) (g1 : Tm.goodB p1 l1 = true) (g0 : Tm.goodB p l = true) : RStep (strip rk11Ops) Q (fun i => ((rk11yEs F p l k p1 l1 r1)[i]?).getD .any) (fun i => (rk11yDs[i]?).getD (1000 + i)) (look (rk11yEnv F p l k p1 l1 r1)) 62 15 := fun _ => step_assign (by kernel_rfl) (Opd.dep 13 rfl rfl (by kernel_rfl)) rfl
theorem rk11y_region {Q : Exit → Act → World → Prop} (F : Fo) (p : Pay) (l : Fo) (k : Nat) (p1 : Pay) (l1 r1 : Fo) (hk : k < Tm.len F) (d1 : Tm.dropF F k = .node p1 l1 r1) (g1 : Tm.goodB p1 l1 = true) (g0 : Tm.goodB p l = true) {w0 : World} {a : Act} {w : World} (h : Hold 62 [(0, .row F), (3, .ptrT p l), (7, .val (.int .i64 ((k : Nat) : Int)))] w0 a w)
    (hQ : ∀ a' w', Hold 62 [(4, .val (.int .i64 ((k : Nat) : Int))), (5, .val (.bool ((Tm.cmpT p1 l1 p l) == 0)))] w0 a' w' → Q .normal a' w') : (Code.region 11 rk11Ops true).wp Tryd.prog Q a w := by
  have hall : ∀ i, i < 0 → RStep (strip rk11Ops) Q (fun i => ((rk11yEs F p l k p1 l1 r1)[i]?).getD .any) (fun i => (rk11yDs[i]?).getD (1000 + i)) (look (rk11yEnv F p l k p1 l1 r1)) 62 i := fun i hi => absurd hi (by omega)
  have hall := below_succ hall (rk11y_0 F p l k p1 l1 r1 hk d1 g1 g0)
  have hall := below_succ hall (rk11y_1 F p l k p1 l1 r1 hk d1 g1 g0)
  have hall := below_succ hall (rk11y_2 F p l k p1 l1 r1 hk d1 g1 g0)
  have hall := below_succ hall (rk11y_3 F p l k p1 l1 r1 hk d1 g1 g0)
  have hall := below_succ hall (rk11y_4 F p l k p1 l1 r1 hk d1 g1 g0)
  have hall := below_succ hall (rk11y_5 F p l k p1 l1 r1 hk d1 g1 g0)
  have hall := below_succ hall (rk11y_6 F p l k p1 l1 r1 hk d1 g1 g0)
  have hall := below_succ hall (rk11y_7 F p l k p1 l1 r1 hk d1 g1 g0)
  have hall := below_succ hall (rk11y_8 F p l k p1 l1 r1 hk d1 g1 g0)
  have hall := below_succ hall (rk11y_9 F p l k p1 l1 r1 hk d1 g1 g0)
  have hall := below_succ hall (rk11y_10 F p l k p1 l1 r1 hk d1 g1 g0)
  have hall := below_succ hall (rk11y_11 F p l k p1 l1 r1 hk d1 g1 g0)
  have hall := below_succ hall (rk11y_12 F p l k p1 l1 r1 hk d1 g1 g0)
  have hall := below_succ hall (rk11y_13 F p l k p1 l1 r1 hk d1 g1 g0)
  have hall := below_succ hall (rk11y_14 F p l k p1 l1 r1 hk d1 g1 g0)
  have hall := below_succ hall (rk11y_15 F p l k p1 l1 r1 hk d1 g1 g0)
  refine env_any4 (env := rk11yEnv F p l k p1 l1 r1) (N := 62) (w0 := w0) rk11yDs (rk11yEs F p l k p1 l1 r1) (by kernel_rfl) (by kernel_rfl) (of_decide_eq_true (by kernel_rfl)) (fun i_ hi_ => hall i_ (by rw [show (rk11yEs F p l k p1 l1 r1).length = 16 by kernel_rfl] at hi_; exact hi_)) h fun a' w' h => ?_
  exact hQ a' w' (h.keep [4, 5])

theorem rrank_any (F : Fo) (p : Pay) (l : Fo) (A A' : Option Addr) (c c' : Nat) (w : World) (hn' : Tm.len F ≤ 100000) (hA : ArgsB w w.heap.size A (Tm.len F) F) (hA' : ArgsB w w.heap.size A' (Tm.len l) l) :
    Calls Tryd.prog 27 #[.slice A (Tm.len F) c, tv p A' (Tm.len l) c'] w fun e w' => e = .returned (rankV F p l) ∧ Below w.heap.size w w' := by
  have hn : Tm.len F ≤ 4611686018427387904 := by omega
  refine calls_of_wp Tryd.func27 rk_body ?_
  obtain ⟨v0, hv0⟩ : ∃ v : Value, v = .slice A (Tm.len F) c := ⟨_, rfl⟩
  obtain ⟨v1, hv1⟩ : ∃ v : Value, v = tv p A' (Tm.len l) c' := ⟨_, rfl⟩
  rw [← hv0, ← hv1]
  have hk0 : (Kd.row F).R v0 w := ⟨A, c, hv0, hA⟩
  have hk1 : (Kd.term p l).R v1 w := ⟨A', c', hv1, hA'⟩
  have hsN : (#[v0, v1] ++ Array.replicate (Tryd.f27.ntmps - #[v0, v1].size) undef : Array Value).size = 62 := by kernel_rfl
  have gs0 : (#[v0, v1] ++ Array.replicate (Tryd.f27.ntmps - #[v0, v1].size) undef : Array Value).getD 0 undef = v0 := by kernel_rfl
  have gs1 : (#[v0, v1] ++ Array.replicate (Tryd.f27.ntmps - #[v0, v1].size) undef : Array Value).getD 1 undef = v1 := by kernel_rfl
  generalize (#[v0, v1] ++ Array.replicate (Tryd.f27.ntmps - #[v0, v1].size) undef : Array Value) = tm at hsN gs0 gs1 ⊢
  refine wp_seq ?_
  refine rk0_region F p l (w0 := w) ⟨hsN, rfl, Below.refl _ _, (slots_cons 0 (by rw [gs0]; exact hk0) (slots_cons 1 (by rw [gs1]; exact hk1) slots_nil))⟩ ?_
  intro a w1 h
  show Code.wp _ _ _ a w1
  have hlen : (Tm.toL F).length = Tm.len F := Tm.len_toL F
  have hel : ∀ k p1 l1 r1, Tm.dropF F k = .node p1 l1 r1 → (Tm.toL F)[k]! = (p1, l1) := by
    intro k p1 l1 r1 hd
    have h1 := Tm.toL_at hd
    have hk : k < (Tm.toL F).length := by
      rcases Nat.lt_or_ge k (Tm.toL F).length with h' | h'
      · exact h'
      · rw [List.getElem?_eq_none h'] at h1; cases h1
    rw [List.getElem?_eq_getElem hk] at h1
    rw [getElem!_pos _ k hk]
    exact Option.some.inj h1
  cases h1 : Tm.validB p l
  · refine wp_seq ?_
    refine wp_seq ?_
    refine rk1a_region F p l hn h1 h ?_
    intro a w1 h
    refine env_cond (b := true) rfl h ?_
    have h := h.keep [0, 3]
    show Code.wp _ _ _ a w1
    refine wp_seq ?_
    refine rk2_region F p l h ?_
    intro a w1 h
    show Code.wp _ _ _ a w1
    refine wp_ret ?_
    (try simp only [then_ret, block_ret])
    refine law_out2 rfl (h.get 4 rfl) (h.get 5 rfl) h.defers ⟨by rw [rankV_no (by rw [h1]; rfl)], h.world⟩
  cases h2 : Tm.allV F
  · refine wp_seq ?_
    refine wp_seq ?_
    refine rk1b_region F p l hn h1 h2 h ?_
    intro a w1 h
    refine env_cond (b := true) rfl h ?_
    have h := h.keep [0, 3]
    show Code.wp _ _ _ a w1
    refine wp_seq ?_
    refine rk2_region F p l h ?_
    intro a w1 h
    show Code.wp _ _ _ a w1
    refine wp_ret ?_
    (try simp only [then_ret, block_ret])
    refine law_out2 rfl (h.get 4 rfl) (h.get 5 rfl) h.defers ⟨by rw [rankV_no (by rw [h1, h2]; rfl)], h.world⟩
  have g0 := Tm.good_of h1
  have hgood : ∀ k p1 l1 r1, Tm.dropF F k = .node p1 l1 r1 → Tm.goodB p1 l1 = true := fun k p1 l1 r1 hd => Tm.good_of (Tm.allV_iff.1 h2 _ (List.mem_of_getElem? (Tm.toL_at hd)))
  refine wp_seq ?_
  refine wp_seq ?_
  refine rk1c_region F p l hn h1 h2 h ?_
  intro a w1 h
  refine env_cond (b := false) rfl h ?_
  refine wp_skip ?_
  have h := h.keep [0, 3]
  show Code.wp _ _ _ a w1
  refine wp_seq ?_
  refine wp_seq ?_
  refine rk3_region F p l h ?_
  intro a w1 h
  show Code.wp _ _ _ a w1
  refine wp_block ?_
  refine wp_while (fun g a w1 => ∃ k : Nat, g = Tm.len F - k ∧ (k + 1 ≤ Tm.len F ∨ k = 0) ∧ Tm.incTo (Tm.toL F) k = true ∧ Hold 62 [(0, .row F), (3, .ptrT p l), (6, .val (.int .i64 ((k + 1 : Nat) : Int)))] w a w1) (Tm.len F) ⟨0, rfl, .inr rfl, rfl, h⟩ ?_
  rintro g a w1 ⟨k, rfl, hk, hinc, h⟩
  refine wp_seq ?_
  refine wp_seq ?_
  refine rk4_region F p l k h ?_
  intro a w1 h
  show Code.wp _ _ _ a w1
  by_cases hlt : k + 1 < Tm.len F
  · have hb : decide (((k + 1 : Nat) : Int) < ((Tm.len F : Nat) : Int)) = true := decide_eq_true (by omega)
    rw [hb] at h
    refine env_cond (b := true) rfl h ?_
    refine wp_skip ?_
    have h := h.keep [0, 3, 6]
    obtain ⟨p1, l1, r1, d1⟩ := Tm.drop_at (F := F) (k := k + 1 - 1) (by omega)
    obtain ⟨p2, l2, r2, d2⟩ := Tm.drop_at (F := F) (k := k + 1) (by omega)
    show Code.wp _ _ _ a w1
    refine wp_seq ?_
    refine wp_block ?_
    refine wp_seq ?_
    refine rk6_region F p l k p1 l1 r1 p2 l2 r2 (by omega) d1 d2 (hgood _ _ _ _ d1) (hgood _ _ _ _ d2) h ?_
    intro a w1 h
    have hcv : Tm.cmpP (Tm.toL F)[k]! (Tm.toL F)[k + 1]! = Tm.cmpT p1 l1 p2 l2 := by
      rw [hel k p1 l1 r1 (by rw [Nat.add_sub_cancel] at d1; exact d1), hel (k + 1) p2 l2 r2 d2]
      rfl
    show Code.wp _ _ _ a w1
    by_cases hc : Tm.cmpT p1 l1 p2 l2 < 0
    · have hb : decide ((0 : Int) ≤ Tm.cmpT p1 l1 p2 l2) = false := decide_eq_false (by omega)
      rw [hb] at h
      refine env_cond (b := false) rfl h ?_
      refine wp_skip ?_
      have h := h.keep [0, 3, 6]
      show Code.wp _ _ _ a w1
      refine rk5_region F p l k (by omega) h ?_
      intro a w1 h
      exact ⟨Tm.len F - (k + 1), by omega, k + 1, rfl, .inl (by omega), Tm.incTo_next hinc (by rw [hcv]; exact hc), h⟩
    · have hb : decide ((0 : Int) ≤ Tm.cmpT p1 l1 p2 l2) = true := decide_eq_true (by omega)
      rw [hb] at h
      refine env_cond (b := true) rfl h ?_
      have h := h.keep [0, 3, 6]
      show Code.wp _ _ _ a w1
      refine wp_seq ?_
      refine rk7_region F p l k h ?_
      intro a w1 h
      show Code.wp _ _ _ a w1
      refine wp_ret ?_
      (try simp only [then_ret, block_ret])
      refine law_out2 rfl (h.get 4 rfl) (h.get 5 rfl) h.defers ⟨by rw [rankV_no (by rw [h1, h2, Tm.incB_not (k := k) (by rw [hlen]; exact hlt) (by rw [hcv]; exact hc)]; rfl)], h.world⟩
  · have hb : decide (((k + 1 : Nat) : Int) < ((Tm.len F : Nat) : Int)) = false := decide_eq_false (by omega)
    rw [hb] at h
    refine env_cond (b := false) rfl h ?_
    refine wp_exit ?_
    have hincB : Tm.incB (Tm.toL F) = true := by
      unfold Tm.incB
      rw [hlen, show Tm.len F - 1 = k by omega]
      exact hinc
    have h := h.keep [0, 3]
    show Code.wp _ _ _ a w1
    refine wp_seq ?_
    refine rk8_region F p l h ?_
    intro a w1 h
    show Code.wp _ _ _ a w1
    refine wp_seq ?_
    refine wp_block ?_
    refine wp_while (fun g a w1 => ∃ k : Nat, g = Tm.len F - k ∧ k ≤ Tm.len F ∧ (∀ j, j < k → Tm.cmpP (Tm.toL F)[j]! (p, l) < 0) ∧ Hold 62 [(0, .row F), (3, .ptrT p l), (7, .val (.int .i64 ((k : Nat) : Int)))] w a w1) (Tm.len F) ⟨0, rfl, Nat.zero_le _, fun j hj => by omega, h⟩ ?_
    rintro g a w1 ⟨k, rfl, hk, k1, h⟩
    refine wp_seq ?_
    refine wp_seq ?_
    by_cases hlt : k < Tm.len F
    · obtain ⟨p1, l1, r1, d1⟩ := Tm.drop_at (F := F) (k := k) hlt
      have e1 := hel k p1 l1 r1 d1
      have g1 := hgood _ _ _ _ d1
      refine rk9y_region F p l k p1 l1 r1 hlt d1 g1 g0 h ?_
      intro a w1 h
      show Code.wp _ _ _ a w1
      by_cases hc : Tm.cmpT p1 l1 p l < 0
      · rw [decide_eq_true hc] at h
        refine env_cond (b := true) rfl h ?_
        refine wp_skip ?_
        have h := h.keep [0, 3, 7]
        show Code.wp _ _ _ a w1
        refine wp_block ?_
        refine rk10_region F p l k (by omega) h ?_
        intro a w1 h
        refine ⟨Tm.len F - (k + 1), by omega, k + 1, rfl, hlt, fun j hj => ?_, h⟩
        by_cases hj2 : j < k
        · exact k1 j hj2
        · rw [show j = k by omega, e1]; exact hc
      · rw [decide_eq_false hc] at h
        refine env_cond (b := false) rfl h ?_
        refine wp_exit ?_
        have h := h.keep [0, 3, 7]
        show Code.wp _ _ _ a w1
        have hrk : Tm.rankOf (Tm.toL F) (p, l) = k := Tm.rankOf_eq (by rw [hlen]; exact hk) k1 (fun _ => by rw [e1]; show 0 ≤ Tm.cmpT p1 l1 p l; omega)
        refine wp_seq ?_
        refine rk11y_region F p l k p1 l1 r1 hlt d1 g1 g0 h ?_
        intro a w1 h
        refine wp_ret ?_
        (try simp only [then_ret, block_ret])
        refine law_out2 rfl (h.get 4 rfl) (h.get 5 rfl) h.defers ⟨?_, h.world⟩
        rw [rankV_yes (by rw [h1, h2, hincB]; rfl)]
        unfold Tm.rankHas
        rw [hrk, hlen, decide_eq_true hlt, Bool.true_and, e1]
        rfl
    · refine rk9n_region F p l k hlt h ?_
      intro a w1 h
      refine env_cond (b := false) rfl h ?_
      refine wp_exit ?_
      have h := h.keep [0, 3, 7]
      show Code.wp _ _ _ a w1
      have hrk : Tm.rankOf (Tm.toL F) (p, l) = k := Tm.rankOf_eq (by rw [hlen]; exact hk) k1 (fun hx => by rw [hlen] at hx; exact absurd hx hlt)
      refine wp_seq ?_
      refine rk11n_region F p l k hlt h ?_
      intro a w1 h
      refine wp_ret ?_
      (try simp only [then_ret, block_ret])
      refine law_out2 rfl (h.get 4 rfl) (h.get 5 rfl) h.defers ⟨?_, h.world⟩
      rw [rankV_yes (by rw [h1, h2, hincB]; rfl)]
      unfold Tm.rankHas
      rw [hrk, hlen, decide_eq_false hlt, Bool.false_and]
end Go.Proofs.YtcjakmafojbhlaaDoor
namespace Go.Proofs.YtcjakmafojbhlaaDoor
set_option linter.unusedVariables false
set_option linter.unusedSimpArgs false
open Go.RowKit

/-- A row of the call's own, and an error number. -/
def RErr (F : Fo) (n : Int) (w : World) (e : Ending) (w' : World) : Prop :=
  ∃ A c, e = .returned (.tuple #[.slice A (Tm.len F) c, .int .i64 n]) ∧ OwnR w.heap.size w' A (Tm.len F) c F ∧ Below w.heap.size w w'
theorem RErr.nil_ {w w' : World} {n : Int} (hb : Below w.heap.size w w') : RErr .nil n w (.returned (.tuple #[.slice none 0 0, .int .i64 n])) w' := ⟨none, 0, rfl, OwnR.start hb.size, hb⟩
theorem Tm.insertL_mem {b : Bool} {L : List Tm.Tn} {x y : Tm.Tn} : y ∈ Tm.insertL b L x ↔ y = x ∨ y ∈ L := by
  unfold Tm.insertL
  rw [List.mem_append, List.mem_cons]
  have h : y ∈ L ↔ y ∈ L.take (Tm.insPos b L x L.length) ∨ y ∈ L.drop (Tm.insPos b L x L.length) := by rw [← List.mem_append, List.take_append_drop]
  rw [h]
  constructor
  · rintro (h | h | h)
    · exact .inr (.inl h)
    · exact .inl h
    · exact .inr (.inr h)
  · rintro (h | h | h)
    · exact .inr (.inl h)
    · exact .inl h
    · exact .inr (.inr h)
theorem Tm.sortTo_mem {b : Bool} {L : List Tm.Tn} : ∀ {k : Nat} {y : Tm.Tn}, k ≤ L.length → y ∈ Tm.sortTo b L k → y ∈ L
  | 0, y, _, h => by cases h
  | k + 1, y, hk, h => by
    rcases Tm.insertL_mem.1 h with h | h
    · rw [h, getElem!_pos L k (by omega)]; exact List.getElem_mem _
    · exact Tm.sortTo_mem (by omega) h
theorem toL_get {F : Fo} {k : Nat} {p : Pay} {l r : Fo} (h : Tm.dropF F k = .node p l r) : (Tm.toL F)[k]! = (p, l) := by
  have h1 := Tm.toL_at h
  have hk : k < (Tm.toL F).length := by
    rcases Nat.lt_or_ge k (Tm.toL F).length with h' | h'
    · exact h'
    · rw [List.getElem?_eq_none h'] at h1; cases h1
  rw [List.getElem?_eq_getElem hk] at h1
  rw [getElem!_pos _ k hk]
  exact Option.some.inj h1

set_option maxHeartbeats 4000000 in
theorem rstable_all (F : Fo) (A : Option Addr) (n c B : Nat) (w : World) (hA : ArgsB w B A n F) (hn : n ≤ 50000) (hv : Tm.allV F = true) (hB : B ≤ w.heap.size) :
    Calls Tryd.prog 20 #[.slice A n c] w (RErr (Tm.ofL (Tm.sortL false (Tm.toL F))) 0 w) := by
  have hn9 : n ≤ 9223372036854775807 := by omega
  have V1 := Lib.hid (rvalids_any F A n c B w hA (by omega) hB)
  rw [hv] at V1
  have HA := Lib.hid hA
  have HOK := Lib.hid (okT_of hv)
  clear hA hv
  go_enter Tryd.func20, Tryd.ntmps20
  go_wp2_with fail
  refine V1.out.mono ?_
  rintro e w1 ⟨rfl, hb1⟩
  have HB1 := Lib.hid hb1
  clear hb1
  go_wp2_with fail
  go_loopw [4, 5] (fun u v wr => ∃ (k : Nat) (Ac : Option Addr) (cc : Nat), k ≤ n ∧ u = .slice Ac k cc ∧ v = .int .i64 k ∧ OwnR w.heap.size wr Ac k cc (Tm.ofL (Tm.sortTo false (Tm.toL F) k)) ∧ Below w.heap.size w wr) (fun _ v _ => n - (intOf v).toNat)
  case atStart => exact ⟨0, none, 0, Nat.zero_le _, rfl, rfl, OwnR.start HB1.out.size, HB1.out⟩
  case round =>
    obtain ⟨k, Ac, cc, hkn, rfl, rfl, hown, hbl⟩ := hrel
    have HBL := Lib.hid hbl
    have HOWN := Lib.hid hown
    clear hbl hown
    by_cases hlt : k < n
    · obtain ⟨bk, o, p1, l1, r1, A1, c1, rfl, hbB, hd, hnode⟩ := HA.out.at hlt
      have hbw : bk < w.heap.size := Nat.lt_of_lt_of_le hbB hB
      have y0 := (HBL.out.cell (p := ⟨bk, o + k * 4, none⟩) hbw).trans hnode.kind
      have y1 := (HBL.out.cell (p := ⟨bk, o + k * 4 + 1, none⟩) hbw).trans hnode.num
      have y2 := (HBL.out.cell (p := ⟨bk, o + k * 4 + 2, none⟩) hbw).trans hnode.name
      have y3 := (HBL.out.cell (p := ⟨bk, o + k * 4 + 3, none⟩) hbw).trans hnode.args
      have hcap := HOWN.out.cap
      have hws := HBL.out.size
      have hLn : (Tm.toL F).length = n := by rw [Tm.len_toL, HA.out.len]
      have C1 := Lib.hid (insert_any false (Tm.ofL (Tm.sortTo false (Tm.toL F) k)) Ac k cc (p1, l1) A1 c1 wr (HOWN.out.args (by omega)) (by
        rcases hcap.2.2 with h | ⟨g, h⟩
        · exact .inl h
        · exact .inr ⟨g, 0, h⟩) hcap.1 hcap.2.1 (by omega) ((hnode.inn.below HBL.out hB).up (by omega)) (fun y hy => by
          rw [Tm.toL_ofL] at hy
          exact HOK.out y (Tm.sortTo_mem (by omega) hy)) (HOK.out _ (List.mem_of_getElem? (Tm.toL_at hd))))
      rw [Tm.toL_ofL, ← toL_get hd] at C1
      have hstep : Tm.insertL false (Tm.sortTo false (Tm.toL F) k) (Tm.toL F)[k]! = Tm.sortTo false (Tm.toL F) (k + 1) := rfl
      rw [hstep, toL_get hd] at C1
      clear hnode hd hstep hcap hLn
      generalize Tm.len l1 = m1 at y3 C1
      go_wp2_with fail
      refine C1.out.mono ?_
      rintro e w2 ⟨A2, c2, rfl, ho2, hb2⟩
      have HO2 := Lib.hid (ho2.mono hws)
      have HB2 := Lib.hid (HBL.out.trans (hb2.mono hws))
      clear ho2 hb2
      go_wp2_with fail
      exact ⟨⟨k + 1, A2, c2, by omega, rfl, by go_num, HO2.out, HB2.out⟩, by simp [intOf]; omega⟩
    · obtain rfl : k = n := by omega
      go_wp2_with fail
      go_ret2
      have hlen : Tm.len (Tm.ofL (Tm.sortL false (Tm.toL F))) = k := by rw [← Tm.len_toL, Tm.toL_ofL, Tm.sortL_len, Tm.len_toL, HA.out.len]
      have hfin : Tm.sortTo false (Tm.toL F) k = Tm.sortL false (Tm.toL F) := by unfold Tm.sortL; rw [Tm.len_toL, HA.out.len]
      have ho := HOWN.out
      rw [hfin] at ho
      refine ⟨Ac, cc, ?_, by rw [hlen]; exact ho, HBL.out⟩
      rw [hlen]; rfl

set_option maxHeartbeats 2000000 in
theorem rstable_bad (F : Fo) (A : Option Addr) (n c B : Nat) (w : World) (hA : ArgsB w B A n F) (hn : n ≤ 50000) (hv : Tm.allV F = false) (hB : B ≤ w.heap.size) :
    Calls Tryd.prog 20 #[.slice A n c] w (RErr .nil 1 w) := by
  have V1 := Lib.hid (rvalids_any F A n c B w hA (by omega) hB)
  rw [hv] at V1
  clear hA hv
  go_enter Tryd.func20, Tryd.ntmps20
  go_wp2_with fail
  refine V1.out.mono ?_
  rintro e w1 ⟨rfl, hb1⟩
  have HB1 := Lib.hid hb1
  clear hb1
  go_wp2_with fail
  go_ret2
  exact RErr.nil_ HB1.out

set_option maxHeartbeats 2000000 in
theorem rkeys_bad (F : Fo) (A : Option Addr) (n c B : Nat) (w : World) (hA : ArgsB w B A n F) (hn : n ≤ 50000) (hv : Tm.allV F = false) (hB : B ≤ w.heap.size) :
    Calls Tryd.prog 21 #[.slice A n c] w (RErr .nil 1 w) := by
  have V1 := Lib.hid (rvalids_any F A n c B w hA (by omega) hB)
  rw [hv] at V1
  clear hA hv
  go_enter Tryd.func21, Tryd.ntmps21
  go_wp2_with fail
  refine V1.out.mono ?_
  rintro e w1 ⟨rfl, hb1⟩
  have HB1 := Lib.hid hb1
  clear hb1
  go_wp2_with fail
  go_ret2
  exact RErr.nil_ HB1.out

set_option maxHeartbeats 8000000 in
theorem rkeys_form (F : Fo) (A : Option Addr) (n c B : Nat) (w : World) (hA : ArgsB w B A n F) (hn : n ≤ 50000) (hv : Tm.allV F = true) (hp : Tm.allPairs F = false) (hB : B ≤ w.heap.size) :
    Calls Tryd.prog 21 #[.slice A n c] w (RErr .nil 3 w) := by
  have hn9 : n ≤ 9223372036854775807 := by omega
  have V1 := Lib.hid (rvalids_any F A n c B w hA (by omega) hB)
  rw [hv] at V1
  have HA := Lib.hid hA
  have HOK := Lib.hid (trivial)
  clear hA hv
  have HPP := Lib.hid hp
  clear hp
  go_enter Tryd.func21, Tryd.ntmps21
  go_wp2_with fail
  refine V1.out.mono ?_
  rintro e w1 ⟨rfl, hb1⟩
  have HB0 := Lib.hid hb1
  clear hb1
  go_wp2_with fail
  go_loopw [4] (fun u wr => ∃ k : Nat, k ≤ n ∧ u = .int .i64 k ∧ Hid (((Tm.toL F).take k).all isPair = true) ∧ Below w.heap.size w wr) (fun u _ => n - (intOf u).toNat)
  case atStart => exact ⟨0, Nat.zero_le _, rfl, by simp [Hid], HB0.out⟩
  case round =>
    obtain ⟨k, hk, rfl, HP, hbl⟩ := hrel
    have HBL := Lib.hid hbl
    clear hbl
    by_cases hlt : k < n
    · obtain ⟨bk, o, p1, l1, r1, A1, c1, rfl, hbB, hd, hnode⟩ := HA.out.at hlt
      have hbw : bk < w.heap.size := Nat.lt_of_lt_of_le hbB hB
      have y0 := (HBL.out.cell (p := ⟨bk, o + k * 4, none⟩) hbw).trans hnode.kind
      have y1 := (HBL.out.cell (p := ⟨bk, o + k * 4 + 1, none⟩) hbw).trans hnode.num
      have y2 := (HBL.out.cell (p := ⟨bk, o + k * 4 + 2, none⟩) hbw).trans hnode.name
      have y3 := (HBL.out.cell (p := ⟨bk, o + k * 4 + 3, none⟩) hbw).trans hnode.args
      have hat := Tm.toL_at hd
      have HAT := Lib.hid hat
      have hws := HBL.out.size
      have C1 := Lib.hid fun (w2 : World) => rpair_any p1 A1 l1 c1 w2
      obtain ⟨v, hv⟩ : ∃ v, v = isPair (p1, l1) := ⟨_, rfl⟩
      rw [← hv] at C1
      have HV := Lib.hid hv
      clear hd hnode hv hat
      generalize Tm.len l1 = m1 at y3 C1
      cases v
      · go_wp2_with fail
        refine (C1.out _).mono ?_
        rintro e w3 ⟨rfl, hb2⟩
        have HB2 := Lib.hid (HBL.out.trans (hb2.mono hws))
        clear hb2
        go_wp2_with fail
        go_ret2
        exact RErr.nil_ HB2.out
      · go_wp2_with fail
        refine (C1.out _).mono ?_
        rintro e w3 ⟨rfl, hb2⟩
        have HB2 := Lib.hid (HBL.out.trans (hb2.mono hws))
        clear hb2
        go_wp2_with fail
        exact ⟨⟨k + 1, by omega, by go_num, all_next HAT.out HP.out HV.out.symm, HB2.out⟩, by simp [intOf]; omega⟩
    · obtain rfl : n = k := by omega
      exfalso
      have h1 := HPP.out
      have h2 := HP.out
      rw [← HA.out.len, ← Tm.len_toL] at h2
      unfold Tm.allPairs at h1
      rw [all_full h2] at h1
      cases h1

set_option maxHeartbeats 8000000 in
theorem rkeys_all (F : Fo) (A : Option Addr) (n c B : Nat) (w : World) (hA : ArgsB w B A n F) (hn : n ≤ 50000) (hv : Tm.allV F = true) (hp : Tm.allPairs F = true) (hB : B ≤ w.heap.size) :
    Calls Tryd.prog 21 #[.slice A n c] w (RErr (Tm.ofL (Tm.sortL true (Tm.toL F))) 0 w) := by
  have hn9 : n ≤ 9223372036854775807 := by omega
  have V1 := Lib.hid (rvalids_any F A n c B w hA (by omega) hB)
  rw [hv] at V1
  have HA := Lib.hid hA
  have HOK := Lib.hid (okT_pairs hv hp)
  clear hA hv
  have HPP := Lib.hid hp
  clear hp
  go_enter Tryd.func21, Tryd.ntmps21
  go_wp2_with fail
  refine V1.out.mono ?_
  rintro e w1 ⟨rfl, hb1⟩
  have HB0 := Lib.hid hb1
  clear hb1
  go_wp2_with fail
  go_loopw [4] (fun u wr => ∃ k : Nat, k ≤ n ∧ u = .int .i64 k ∧ Hid (((Tm.toL F).take k).all isPair = true) ∧ Below w.heap.size w wr) (fun u _ => n - (intOf u).toNat)
  case atStart => exact ⟨0, Nat.zero_le _, rfl, by simp [Hid], HB0.out⟩
  case round =>
    obtain ⟨k, hk, rfl, HP, hbl⟩ := hrel
    have HBL := Lib.hid hbl
    clear hbl
    by_cases hlt : k < n
    · obtain ⟨bk, o, p1, l1, r1, A1, c1, rfl, hbB, hd, hnode⟩ := HA.out.at hlt
      have hbw : bk < w.heap.size := Nat.lt_of_lt_of_le hbB hB
      have y0 := (HBL.out.cell (p := ⟨bk, o + k * 4, none⟩) hbw).trans hnode.kind
      have y1 := (HBL.out.cell (p := ⟨bk, o + k * 4 + 1, none⟩) hbw).trans hnode.num
      have y2 := (HBL.out.cell (p := ⟨bk, o + k * 4 + 2, none⟩) hbw).trans hnode.name
      have y3 := (HBL.out.cell (p := ⟨bk, o + k * 4 + 3, none⟩) hbw).trans hnode.args
      have hat := Tm.toL_at hd
      have HAT := Lib.hid hat
      have hws := HBL.out.size
      have C1 := Lib.hid fun (w2 : World) => rpair_any p1 A1 l1 c1 w2
      obtain ⟨v, hv⟩ : ∃ v, v = isPair (p1, l1) := ⟨_, rfl⟩
      rw [← hv] at C1
      have HV := Lib.hid hv
      clear hd hnode hv hat
      generalize Tm.len l1 = m1 at y3 C1
      cases v
      · exfalso
        have h1 := HPP.out
        have h2 := HV.out
        unfold Tm.allPairs at h1
        rw [all_not HAT.out HV.out.symm] at h1
        cases h1
      · go_wp2_with fail
        refine (C1.out _).mono ?_
        rintro e w3 ⟨rfl, hb2⟩
        have HB2 := Lib.hid (HBL.out.trans (hb2.mono hws))
        clear hb2
        go_wp2_with fail
        exact ⟨⟨k + 1, by omega, by go_num, all_next HAT.out HP.out HV.out.symm, HB2.out⟩, by simp [intOf]; omega⟩
    · obtain rfl : n = k := by omega
      have HB1 := Lib.hid HBL.out
      go_wp2_with fail
      clear HP
      go_loopw [5, 6] (fun u v wr => ∃ (k : Nat) (Ac : Option Addr) (cc : Nat), k ≤ n ∧ u = .slice Ac k cc ∧ v = .int .i64 k ∧ OwnR w.heap.size wr Ac k cc (Tm.ofL (Tm.sortTo true (Tm.toL F) k)) ∧ Below w.heap.size w wr) (fun _ v _ => n - (intOf v).toNat)
      case atStart => exact ⟨0, none, 0, Nat.zero_le _, rfl, rfl, OwnR.start HB1.out.size, HB1.out⟩
      case round =>
        obtain ⟨k, Ac, cc, hkn, rfl, rfl, hown, hbl⟩ := hrel
        have HBL := Lib.hid hbl
        have HOWN := Lib.hid hown
        clear hbl hown
        by_cases hlt : k < n
        · obtain ⟨bk, o, p1, l1, r1, A1, c1, rfl, hbB, hd, hnode⟩ := HA.out.at hlt
          have hbw : bk < w.heap.size := Nat.lt_of_lt_of_le hbB hB
          have y0 := (HBL.out.cell (p := ⟨bk, o + k * 4, none⟩) hbw).trans hnode.kind
          have y1 := (HBL.out.cell (p := ⟨bk, o + k * 4 + 1, none⟩) hbw).trans hnode.num
          have y2 := (HBL.out.cell (p := ⟨bk, o + k * 4 + 2, none⟩) hbw).trans hnode.name
          have y3 := (HBL.out.cell (p := ⟨bk, o + k * 4 + 3, none⟩) hbw).trans hnode.args
          have hcap := HOWN.out.cap
          have hws := HBL.out.size
          have hLn : (Tm.toL F).length = n := by rw [Tm.len_toL, HA.out.len]
          have C1 := Lib.hid (insert_any true (Tm.ofL (Tm.sortTo true (Tm.toL F) k)) Ac k cc (p1, l1) A1 c1 wr (HOWN.out.args (by omega)) (by
            rcases hcap.2.2 with h | ⟨g, h⟩
            · exact .inl h
            · exact .inr ⟨g, 0, h⟩) hcap.1 hcap.2.1 (by omega) ((hnode.inn.below HBL.out hB).up (by omega)) (fun y hy => by
              rw [Tm.toL_ofL] at hy
              exact HOK.out y (Tm.sortTo_mem (by omega) hy)) (HOK.out _ (List.mem_of_getElem? (Tm.toL_at hd))))
          rw [Tm.toL_ofL, ← toL_get hd] at C1
          have hstep : Tm.insertL true (Tm.sortTo true (Tm.toL F) k) (Tm.toL F)[k]! = Tm.sortTo true (Tm.toL F) (k + 1) := rfl
          rw [hstep, toL_get hd] at C1
          clear hnode hd hstep hcap hLn
          generalize Tm.len l1 = m1 at y3 C1
          go_wp2_with fail
          refine C1.out.mono ?_
          rintro e w2 ⟨A2, c2, rfl, ho2, hb2⟩
          have HO2 := Lib.hid (ho2.mono hws)
          have HB2 := Lib.hid (HBL.out.trans (hb2.mono hws))
          clear ho2 hb2
          go_wp2_with fail
          exact ⟨⟨k + 1, A2, c2, by omega, rfl, by go_num, HO2.out, HB2.out⟩, by simp [intOf]; omega⟩
        · obtain rfl : k = n := by omega
          go_wp2_with fail
          go_ret2
          have hlen : Tm.len (Tm.ofL (Tm.sortL true (Tm.toL F))) = k := by rw [← Tm.len_toL, Tm.toL_ofL, Tm.sortL_len, Tm.len_toL, HA.out.len]
          have hfin : Tm.sortTo true (Tm.toL F) k = Tm.sortL true (Tm.toL F) := by unfold Tm.sortL; rw [Tm.len_toL, HA.out.len]
          have ho := HOWN.out
          rw [hfin] at ho
          refine ⟨Ac, cc, ?_, by rw [hlen]; exact ho, HBL.out⟩
          rw [hlen]; rfl
end Go.Proofs.YtcjakmafojbhlaaDoor
namespace Go.Proofs.YtcjakmafojbhlaaDoor
set_option linter.unusedVariables false
set_option linter.unusedSimpArgs false
open Go.RowKit

theorem OwnR.appSrc {N : Nat} {w : World} {A : Option Addr} {n c : Nat} {F : Fo} (h : OwnR N w A n c F) {B : Nat} (hB : B ≤ N) {A0 : Option Addr} {m c0 : Nat} {p : Pay} {l : Fo} (hm : m = Tm.len l) (hx : ArgsB w B A0 (Tm.len l) l) :
    ArgsIn (fun b => b < (w.alloc (.cells #[.int .i64 p.1, .int .i64 p.2.1, .string p.2.2, .slice A0 m c0] 24)).heap.size ∧ (Value.slice A n c).ownBlock ≠ some b) (w.alloc (.cells #[.int .i64 p.1, .int .i64 p.2.1, .string p.2.2, .slice A0 m c0] 24)) (some ⟨w.heap.size, 0, none⟩) 1 (.node p l .nil) :=
  one_src h hm hx hB h.lo
theorem ofL_snoc (L : List Tm.Tn) (x : Tm.Tn) : Tm.app (Tm.ofL L) (.node x.1 x.2 .nil) = Tm.ofL (L ++ [x]) := by
  refine Tm.toL_inj ?_
  rw [Tm.toL_app, Tm.toL_ofL, Tm.toL_ofL]
  rfl
theorem dup_neg {L : List Tm.Tn} {k : Nat} : Tm.dupAt L (k + 1) = decide (Tm.cmpP L[k]! L[k + 1]! = 0) := by
  unfold Tm.dupAt
  rw [decide_eq_true (Nat.succ_pos k), Bool.true_and, Nat.add_sub_cancel]
  have h := Tm.cmpP_neg L[k]! L[k + 1]!
  congr 1
  rw [h]
  exact propext ⟨fun h => by omega, fun h => by omega⟩
set_option maxHeartbeats 8000000 in
set_option maxRecDepth 100000 in
theorem rsort_gen (F' : Fo) (e0 : Int) (A : Option Addr) (n c n' : Nat) (w : World) (hst : Calls Tryd.prog 20 #[.slice A n c] w (RErr F' e0 w)) (hok : ∀ y ∈ Tm.toL F', OkT false y) (hn' : Tm.len F' = n') (hn : n' ≤ 50000) :
    Calls Tryd.prog 19 #[.slice A n c] w (RErr (Tm.ofL (Tm.uniq (Tm.toL F'))) e0 w) := by
  have HST := Lib.hid hst
  have HOK := Lib.hid hok
  have HLF := Lib.hid hn'
  have hLn : (Tm.toL F').length = n' := by rw [Tm.len_toL, hn']
  have HLL := Lib.hid hLn
  clear hst hok hn' hLn
  go_enter Tryd.func19, Tryd.ntmps19
  go_wp2_with fail
  refine HST.out.mono ?_
  intro e w1 hr
  obtain ⟨A', c', he, ho1, hb1⟩ := hr
  rw [HLF.out] at he ho1
  subst he
  have hcap := ho1.cap
  have HA := Lib.hid (ho1.args (by omega))
  have HB1 := Lib.hid hb1
  have hw1 := hb1.size
  clear ho1 hb1
  have hn9 : n' ≤ 9223372036854775807 := by omega
  go_wp2_with fail
  go_loopw [6, 7] (fun u v wr => ∃ (k m : Nat) (Ac : Option Addr) (cc : Nat), k ≤ n' ∧ m ≤ k ∧ u = .slice Ac m cc ∧ v = .int .i64 k ∧ OwnR w1.heap.size wr Ac m cc (Tm.ofL (Tm.uniqTo (Tm.toL F') k)) ∧ Below w1.heap.size w1 wr) (fun _ v _ => n' - (intOf v).toNat)
  case atStart => exact ⟨0, 0, none, 0, Nat.zero_le _, Nat.le_refl _, rfl, rfl, OwnR.start (Nat.le_refl _), Below.refl _ _⟩
  case round =>
    obtain ⟨k, m, Ac, cc, hkn, hmk, rfl, rfl, hown, hbl⟩ := hrel
    have HBL := Lib.hid hbl
    have HOWN := Lib.hid hown
    clear hbl hown
    have hm : Tryd.prog.follows .mixedOrders = true := by kernel_rfl
    have hws := HBL.out.size
    by_cases hlt : k < n'
    · obtain ⟨bk, o, p1, l1, r1, A1, c1, rfl, hbB, hd, hnode⟩ := HA.out.at hlt
      have hbw : bk < wr.heap.size := by omega
      have y0 := cell_bw (a := ⟨bk, o + k * 4, none⟩) hbw ((HBL.out.cell (p := ⟨bk, o + k * 4, none⟩) hbB).trans hnode.kind)
      have y1 := cell_bw (a := ⟨bk, o + k * 4 + 1, none⟩) hbw ((HBL.out.cell (p := ⟨bk, o + k * 4 + 1, none⟩) hbB).trans hnode.num)
      have y2 := cell_bw (a := ⟨bk, o + k * 4 + 2, none⟩) hbw ((HBL.out.cell (p := ⟨bk, o + k * 4 + 2, none⟩) hbB).trans hnode.name)
      have y3 := cell_bw (a := ⟨bk, o + k * 4 + 3, none⟩) hbw ((HBL.out.cell (p := ⟨bk, o + k * 4 + 3, none⟩) hbB).trans hnode.args)
      have HX := Lib.hid (hnode.inn.below HBL.out (Nat.le_refl _))
      have hel := toL_get hd
      have hok1 := HOK.out _ (List.mem_of_getElem? (Tm.toL_at hd))
      obtain ⟨m1, hm1⟩ : ∃ m1, m1 = Tm.len l1 := ⟨_, rfl⟩
      have HM1 := Lib.hid hm1
      rw [← hm1] at y3
      have HEL := Lib.hid hel
      by_cases h0 : k = 0
      · subst h0
        have HDUP := Lib.hid (show Tm.dupAt (Tm.toL F') 0 = false from rfl)
        clear hnode hd hm1 hel hok1
        simp only [Nat.zero_mul, Nat.add_zero] at y0 y1 y2 y3
        go_wp2_with fail
        refine wp_region_bw hm (by kernel_rfl) ?_
        repeat (go_big_quiet_step (fail))
        refine wpQuiet_nil ?_
        intro _ hw'
        obtain ⟨pq, hw''⟩ := hw'
        subst hw''
        have x0 := y0 pq
        have x1 := y1 pq
        have x2 := y2 pq
        have x3 := y3 pq
        have HOW := Lib.hid (HOWN.out.below pq.ok)
        have HXW := Lib.hid (HX.out.keep fun b_ (hb_ : b_ < w1.heap.size) => pq.ok.block b_ (by omega))
        have HBW := Lib.hid (HBL.out.trans (pq.ok.mono (by omega)))
        have hsp := pq.ok.size
        clear y0 y1 y2 y3
        generalize pq.to = w2 at *
        go_wp2_with (at_builtin; refine wpList_append_terms rfl _ _ rfl (HOW.out.below ((Below.refl _ w2).alloc (Nat.le_refl _) _)) rfl (G := .node p1 l1 .nil) rfl (HOW.out.appSrc (Nat.le_refl _) HM1.out HXW.out) (by omega) ?_)
        intro A4 c4 w4 o4 b4 k4
        have HO4 := Lib.hid o4
        have HB4 := Lib.hid (HBW.out.trans (((Below.refl w1.heap.size w2).alloc (by omega) _).trans b4))
        clear o4 b4 k4
        go_wp2_with fail
        refine ⟨⟨1, m + 1, A4, c4, by omega, by omega, rfl, by go_num, ?_, HB4.out⟩, by simp [intOf]; omega⟩
        have := HO4.out
        rw [show (Fo.node p1 l1 .nil) = .node (p1, l1).1 (p1, l1).2 .nil from rfl, ← HEL.out, ofL_snoc, ← Tm.uniqTo_new HDUP.out] at this
        exact this
      · obtain ⟨kp, rfl⟩ : ∃ kp, k = kp + 1 := ⟨k - 1, by omega⟩
        obtain ⟨bk2, o2, p2, l2, r2, A2, c2, e2, hbB2, hd2, hnode2⟩ := HA.out.at (k := kp) (by omega)
        cases e2
        have z0 := cell_bw (a := ⟨bk, o + kp * 4, none⟩) hbw ((HBL.out.cell (p := ⟨bk, o + kp * 4, none⟩) hbB).trans hnode2.kind)
        have z1 := cell_bw (a := ⟨bk, o + kp * 4 + 1, none⟩) hbw ((HBL.out.cell (p := ⟨bk, o + kp * 4 + 1, none⟩) hbB).trans hnode2.num)
        have z2 := cell_bw (a := ⟨bk, o + kp * 4 + 2, none⟩) hbw ((HBL.out.cell (p := ⟨bk, o + kp * 4 + 2, none⟩) hbB).trans hnode2.name)
        have z3 := cell_bw (a := ⟨bk, o + kp * 4 + 3, none⟩) hbw ((HBL.out.cell (p := ⟨bk, o + kp * 4 + 3, none⟩) hbB).trans hnode2.args)
        have hx1 : ArgsB wr wr.heap.size A1 (Tm.len l1) l1 := HX.out.up hws
        have hx2 : ArgsB wr wr.heap.size A2 (Tm.len l2) l2 := (hnode2.inn.below HBL.out (Nat.le_refl _)).up hws
        have hok2 := HOK.out _ (List.mem_of_getElem? (Tm.toL_at hd2))
        have hk3 : ∀ q : Bw wr, Calls Tryd.prog 38 #[tv p2 A2 (Tm.len l2) c2, tv p1 A1 (Tm.len l1) c1] q.to fun e w' => e = .returned (.int .i64 (Tm.cmpT p2 l2 p1 l1)) ∧ Below q.to.heap.size q.to w' := fun q =>
          rcompare_any _ _ _ _ _ _ _ _ wr.heap.size q.to hok2.1 hok1.1 (hx2.below q.ok (Nat.le_refl _)) (hx1.below q.ok (Nat.le_refl _)) q.ok.size
        have hdup : Tm.dupAt (Tm.toL F') (kp + 1) = decide (Tm.cmpT p2 l2 p1 l1 = 0) := by rw [dup_neg, toL_get hd2, hel]; rfl
        have HDU := Lib.hid hdup
        rw [← hm1] at hk3
        clear hnode hnode2 hd hd2 hm1 hel hok1 hok2 hx1 hx2 hdup
        generalize Tm.cmpT p2 l2 p1 l1 = cv at hk3 HDU
        generalize Tm.len l2 = m2 at z3 hk3
        have hwp : IntKind.i64.wrap (kp : Int) = (kp : Int) := by rw [IntKind.wrap_i64]; omega
        have jz : (kp : Int) + 1 < (n' : Int) := by omega
        have jz2 : (kp : Int) < (n' : Int) := by omega
        have j0 : ((kp : Int) + 1 == 0) = false := by simp; omega
        have p0 : (0 : Int) ≤ (kp : Int) + 1 := by omega
        have e0' : ((kp : Int) + 1).toNat = kp + 1 := by omega
        by_cases hc : cv = 0
        · have hcb : (cv != 0) = false := by simpa using hc
          have HDUP := Lib.hid (show Tm.dupAt (Tm.toL F') (kp + 1) = true by rw [HDU.out]; simpa using hc)
          clear HDU hc
          go_wp2_with fail
          refine wp_region_bw hm (by kernel_rfl) ?_
          repeat (go_big_quiet_step (exact calls_bw (hk3 _)))
          refine wpQuiet_nil ?_
          intro _ hw'
          obtain ⟨pq, hw''⟩ := hw'
          subst hw''
          have HOW := Lib.hid (HOWN.out.below pq.ok)
          have HBW := Lib.hid (HBL.out.trans (pq.ok.mono (by omega)))
          go_wp2_with fail
          refine ⟨⟨kp + 2, m, Ac, cc, by omega, by omega, rfl, by go_num, ?_, HBW.out⟩, by simp [intOf]; omega⟩
          rw [Tm.uniqTo_dup HDUP.out]
          exact HOW.out
        · have hcb : (cv != 0) = true := by simpa using hc
          have HDUP := Lib.hid (show Tm.dupAt (Tm.toL F') (kp + 1) = false by rw [HDU.out]; simpa using hc)
          clear HDU hc
          go_wp2_with fail
          refine wp_region_bw hm (by kernel_rfl) ?_
          repeat (go_big_quiet_step (exact calls_bw (hk3 _)))
          refine wpQuiet_nil ?_
          intro _ hw'
          obtain ⟨pq, hw''⟩ := hw'
          subst hw''
          have x0 := y0 pq
          have x1 := y1 pq
          have x2 := y2 pq
          have x3 := y3 pq
          have HOW := Lib.hid (HOWN.out.below pq.ok)
          have HXW := Lib.hid (HX.out.keep fun b_ (hb_ : b_ < w1.heap.size) => pq.ok.block b_ (by omega))
          have HBW := Lib.hid (HBL.out.trans (pq.ok.mono (by omega)))
          have hsp := pq.ok.size
          clear y0 y1 y2 y3 z0 z1 z2 z3 hk3
          generalize pq.to = w2 at *
          go_wp2_with (at_builtin; refine wpList_append_terms rfl _ _ rfl (HOW.out.below ((Below.refl _ w2).alloc (Nat.le_refl _) _)) rfl (G := .node p1 l1 .nil) rfl (HOW.out.appSrc (Nat.le_refl _) HM1.out HXW.out) (by omega) ?_)
          intro A4 c4 w4 o4 b4 k4
          have HO4 := Lib.hid o4
          have HB4 := Lib.hid (HBW.out.trans (((Below.refl w1.heap.size w2).alloc (by omega) _).trans b4))
          clear o4 b4 k4
          go_wp2_with fail
          refine ⟨⟨kp + 2, m + 1, A4, c4, by omega, by omega, rfl, by go_num, ?_, HB4.out⟩, by simp [intOf]; omega⟩
          have := HO4.out
          rw [show (Fo.node p1 l1 .nil) = .node (p1, l1).1 (p1, l1).2 .nil from rfl, ← HEL.out, ofL_snoc, ← Tm.uniqTo_new HDUP.out] at this
          exact this
    · obtain rfl : n' = k := by omega
      go_wp2_with fail
      go_ret2
      have ho := HOWN.out
      have hl := ho.len
      rw [show Tm.uniqTo (Tm.toL F') n' = Tm.uniq (Tm.toL F') by unfold Tm.uniq; rw [HLL.out]] at ho hl
      rw [← hl] at ho
      refine ⟨Ac, cc, ?_, ho.mono hw1, HB1.out.trans (HBL.out.mono hw1)⟩
      rw [hl]; rfl
end Go.Proofs.YtcjakmafojbhlaaDoor
namespace Go.Proofs.YtcjakmafojbhlaaDoor
set_option linter.unusedVariables false
set_option linter.unusedSimpArgs false
open Go.RowKit

/-! ### what the functions return -/
def sortR (F : Fo) : Fo × Int := if Tm.allV F = true then (Tm.ofL (Tm.uniq (Tm.sortL false (Tm.toL F))), 0) else (.nil, 1)
def stableR (F : Fo) : Fo × Int := if Tm.allV F = true then (Tm.ofL (Tm.sortL false (Tm.toL F)), 0) else (.nil, 1)
def keysR (F : Fo) : Fo × Int := if Tm.allV F = true then (if Tm.allPairs F = true then (Tm.ofL (Tm.sortL true (Tm.toL F)), 0) else (.nil, 3)) else (.nil, 1)
def rankI (F : Fo) (p : Pay) (l : Fo) : Int := if (Tm.validB p l && (Tm.allV F && Tm.incB (Tm.toL F))) = true then ((Tm.rankOf (Tm.toL F) (p, l) : Nat) : Int) else 0
def rankB (F : Fo) (p : Pay) (l : Fo) : Bool := if (Tm.validB p l && (Tm.allV F && Tm.incB (Tm.toL F))) = true then Tm.rankHas (Tm.toL F) (p, l) else false
theorem rankV_eq (F : Fo) (p : Pay) (l : Fo) : rankV F p l = .tuple #[.int .i64 (rankI F p l), .bool (rankB F p l)] := by
  unfold rankV rankI rankB
  split <;> rfl
theorem osort_any (F : Fo) (A : Option Addr) (n c B : Nat) (w : World) (hA : ArgsB w B A n F) (hn : n ≤ 100000) (hT : Tabs w) (hB : B ≤ w.heap.size) : Calls Tryd.prog 16 #[.slice A n c] w (MadeErr (sortR F).1 (sortR F).2 w) := by
  unfold sortR
  cases hv : Tm.allV F
  · exact sort_bad F A n c B w hA hn hv hB
  · exact sort_all F A n c B w hA hn hv hT hB
theorem ostable_any (F : Fo) (A : Option Addr) (n c B : Nat) (w : World) (hA : ArgsB w B A n F) (hn : n ≤ 100000) (hT : Tabs w) (hB : B ≤ w.heap.size) : Calls Tryd.prog 17 #[.slice A n c] w (MadeErr (stableR F).1 (stableR F).2 w) := by
  unfold stableR
  cases hv : Tm.allV F
  · exact stable_bad F A n c B w hA hn hv hB
  · exact stable_all F A n c B w hA hn hv hT hB
theorem okeys_any (F : Fo) (A : Option Addr) (n c B : Nat) (w : World) (hA : ArgsB w B A n F) (hn : n ≤ 100000) (hT : Tabs w) (hB : B ≤ w.heap.size) : Calls Tryd.prog 18 #[.slice A n c] w (MadeErr (keysR F).1 (keysR F).2 w) := by
  unfold keysR
  cases hv : Tm.allV F
  · exact keys_bad F A n c B w hA hn hv hB
  · cases hp : Tm.allPairs F
    · exact keys_form F A n c B w hA hn hv hp hB
    · exact keys_all F A n c B w hA hn hv hp hT hB
theorem rstable_any (F : Fo) (A : Option Addr) (n c B : Nat) (w : World) (hA : ArgsB w B A n F) (hn : n ≤ 50000) (hB : B ≤ w.heap.size) : Calls Tryd.prog 20 #[.slice A n c] w (RErr (stableR F).1 (stableR F).2 w) := by
  unfold stableR
  cases hv : Tm.allV F
  · exact rstable_bad F A n c B w hA hn hv hB
  · exact rstable_all F A n c B w hA hn hv hB
theorem rkeys_any (F : Fo) (A : Option Addr) (n c B : Nat) (w : World) (hA : ArgsB w B A n F) (hn : n ≤ 50000) (hB : B ≤ w.heap.size) : Calls Tryd.prog 21 #[.slice A n c] w (RErr (keysR F).1 (keysR F).2 w) := by
  unfold keysR
  cases hv : Tm.allV F
  · exact rkeys_bad F A n c B w hA hn hv hB
  · cases hp : Tm.allPairs F
    · exact rkeys_form F A n c B w hA hn hv hp hB
    · exact rkeys_all F A n c B w hA hn hv hp hB
theorem rsort_any (F : Fo) (A : Option Addr) (n c B : Nat) (w : World) (hA : ArgsB w B A n F) (hn : n ≤ 50000) (hB : B ≤ w.heap.size) : Calls Tryd.prog 19 #[.slice A n c] w (RErr (sortR F).1 (sortR F).2 w) := by
  have h := rstable_any F A n c B w hA hn hB
  unfold sortR
  unfold stableR at h
  cases hv : Tm.allV F
  · rw [hv] at h
    exact rsort_gen .nil 1 A n c 0 w h (fun y hy => by cases hy) rfl (by omega)
  · rw [hv] at h
    have h2 := rsort_gen (Tm.ofL (Tm.sortL false (Tm.toL F))) 0 A n c n w h (fun y hy => by rw [Tm.toL_ofL] at hy; exact okT_of hv y (Tm.sortL_mem.1 hy)) (by rw [← Tm.len_toL, Tm.toL_ofL, Tm.sortL_len, Tm.len_toL, hA.len]) hn
    rw [Tm.toL_ofL] at h2
    exact h2
theorem MadeErr.R {F : Fo} {n : Int} {w w' : World} {e : Ending} (h : MadeErr F n w e w') : ∃ v, e = .returned v ∧ (Kd.rowErr F n).R v w' ∧ Below w.heap.size w w' := by
  obtain ⟨A, c, rfl, h1, _, h3⟩ := h
  exact ⟨_, rfl, ⟨A, c, rfl, h1.mono fun b hb => hb.2⟩, h3⟩
theorem RErr.R {F : Fo} {n : Int} {w w' : World} {e : Ending} (h : RErr F n w e w') (hl : Tm.len F ≤ 9223372036854775807) : ∃ v, e = .returned v ∧ (Kd.rowErr F n).R v w' ∧ Below w.heap.size w w' := by
  obtain ⟨A, c, rfl, h1, h3⟩ := h
  exact ⟨_, rfl, ⟨A, c, rfl, h1.args hl⟩, h3⟩
theorem sortR_len (F : Fo) : Tm.len (sortR F).1 ≤ Tm.len F := by
  unfold sortR
  split
  · rw [← Tm.len_toL, Tm.toL_ofL]
    refine Nat.le_trans (Tm.uniq_len _) ?_
    rw [Tm.sortL_len, Tm.len_toL]
    exact Nat.le_refl _
  · exact Nat.zero_le _
theorem stableR_len (F : Fo) : Tm.len (stableR F).1 ≤ Tm.len F := by
  unfold stableR
  split
  · rw [← Tm.len_toL, Tm.toL_ofL, Tm.sortL_len, Tm.len_toL]
    exact Nat.le_refl _
  · exact Nat.zero_le _
theorem keysR_len (F : Fo) : Tm.len (keysR F).1 ≤ Tm.len F := by
  unfold keysR
  split
  · split
    · rw [← Tm.len_toL, Tm.toL_ofL, Tm.sortL_len, Tm.len_toL]
      exact Nat.le_refl _
    · exact Nat.zero_le _
  · exact Nat.zero_le _

section
variable {ops : Array Oper} {Q : Exit → Act → World → Prop} {E : Nat → Kd} {D : Nat → Nat} {base : Nat → Option Kd} {N : Nat}
theorem step_osort {i : Nat} {x : Operand} {F : Fo} (hn : Tm.len F ≤ 50000) (tt : Nat) (hop : (ops[i]?).map (·.op) = some (.call { callee := .value (.func 16), args := #[x], argTypes := #[22] })) (hx : Opd ops E D base N i x (.row F)) (hT : Opd ops E D base N i (.tmp tt) .tabs) (hE : E i = .rowErr (sortR F).1 (sortR F).2) : Step Tryd.prog ops Q E D base N i :=
  step_call hop (fun _ _ => by kernel_rfl) fun a w h => by
    obtain ⟨A, c, ex, ha⟩ := hx a w h
    have hT' : Tabs w := hT a w h
    rw [show (#[x] : Array Operand).map a.eval = #[.slice A (Tm.len F) c] by rw [← ex]; simp, hE]
    exact (osort_any F A (Tm.len F) c w.heap.size w ha (by omega) hT' (Nat.le_refl _)).mono fun e w' hm => hm.R
theorem step_ostable {i : Nat} {x : Operand} {F : Fo} (hn : Tm.len F ≤ 50000) (tt : Nat) (hop : (ops[i]?).map (·.op) = some (.call { callee := .value (.func 17), args := #[x], argTypes := #[22] })) (hx : Opd ops E D base N i x (.row F)) (hT : Opd ops E D base N i (.tmp tt) .tabs) (hE : E i = .rowErr (stableR F).1 (stableR F).2) : Step Tryd.prog ops Q E D base N i :=
  step_call hop (fun _ _ => by kernel_rfl) fun a w h => by
    obtain ⟨A, c, ex, ha⟩ := hx a w h
    have hT' : Tabs w := hT a w h
    rw [show (#[x] : Array Operand).map a.eval = #[.slice A (Tm.len F) c] by rw [← ex]; simp, hE]
    exact (ostable_any F A (Tm.len F) c w.heap.size w ha (by omega) hT' (Nat.le_refl _)).mono fun e w' hm => hm.R
theorem step_okeys {i : Nat} {x : Operand} {F : Fo} (hn : Tm.len F ≤ 50000) (tt : Nat) (hop : (ops[i]?).map (·.op) = some (.call { callee := .value (.func 18), args := #[x], argTypes := #[22] })) (hx : Opd ops E D base N i x (.row F)) (hT : Opd ops E D base N i (.tmp tt) .tabs) (hE : E i = .rowErr (keysR F).1 (keysR F).2) : Step Tryd.prog ops Q E D base N i :=
  step_call hop (fun _ _ => by kernel_rfl) fun a w h => by
    obtain ⟨A, c, ex, ha⟩ := hx a w h
    have hT' : Tabs w := hT a w h
    rw [show (#[x] : Array Operand).map a.eval = #[.slice A (Tm.len F) c] by rw [← ex]; simp, hE]
    exact (okeys_any F A (Tm.len F) c w.heap.size w ha (by omega) hT' (Nat.le_refl _)).mono fun e w' hm => hm.R
theorem step_rsort {i : Nat} {x : Operand} {F : Fo} (hn : Tm.len F ≤ 50000) (hop : (ops[i]?).map (·.op) = some (.call { callee := .value (.func 19), args := #[x], argTypes := #[22] })) (hx : Opd ops E D base N i x (.row F)) (hE : E i = .rowErr (sortR F).1 (sortR F).2) : Step Tryd.prog ops Q E D base N i :=
  step_call hop (fun _ _ => by kernel_rfl) fun a w h => by
    obtain ⟨A, c, ex, ha⟩ := hx a w h
    skip
    rw [show (#[x] : Array Operand).map a.eval = #[.slice A (Tm.len F) c] by rw [← ex]; simp, hE]
    exact (rsort_any F A (Tm.len F) c w.heap.size w ha (by omega) (Nat.le_refl _)).mono fun e w' hm => hm.R (by have := sortR_len F; omega)
theorem step_rstable {i : Nat} {x : Operand} {F : Fo} (hn : Tm.len F ≤ 50000) (hop : (ops[i]?).map (·.op) = some (.call { callee := .value (.func 20), args := #[x], argTypes := #[22] })) (hx : Opd ops E D base N i x (.row F)) (hE : E i = .rowErr (stableR F).1 (stableR F).2) : Step Tryd.prog ops Q E D base N i :=
  step_call hop (fun _ _ => by kernel_rfl) fun a w h => by
    obtain ⟨A, c, ex, ha⟩ := hx a w h
    skip
    rw [show (#[x] : Array Operand).map a.eval = #[.slice A (Tm.len F) c] by rw [← ex]; simp, hE]
    exact (rstable_any F A (Tm.len F) c w.heap.size w ha (by omega) (Nat.le_refl _)).mono fun e w' hm => hm.R (by have := stableR_len F; omega)
theorem step_rkeys {i : Nat} {x : Operand} {F : Fo} (hn : Tm.len F ≤ 50000) (hop : (ops[i]?).map (·.op) = some (.call { callee := .value (.func 21), args := #[x], argTypes := #[22] })) (hx : Opd ops E D base N i x (.row F)) (hE : E i = .rowErr (keysR F).1 (keysR F).2) : Step Tryd.prog ops Q E D base N i :=
  step_call hop (fun _ _ => by kernel_rfl) fun a w h => by
    obtain ⟨A, c, ex, ha⟩ := hx a w h
    skip
    rw [show (#[x] : Array Operand).map a.eval = #[.slice A (Tm.len F) c] by rw [← ex]; simp, hE]
    exact (rkeys_any F A (Tm.len F) c w.heap.size w ha (by omega) (Nat.le_refl _)).mono fun e w' hm => hm.R (by have := keysR_len F; omega)
theorem step_orank {i : Nat} {x y : Operand} {F : Fo} {p : Pay} {l : Fo} (hn : Tm.len F ≤ 50000) (tt : Nat) (hop : (ops[i]?).map (·.op) = some (.call { callee := .value (.func 26), args := #[x, y], argTypes := #[22, 24] })) (hx : Opd ops E D base N i x (.row F)) (hy : Opd ops E D base N i y (.term p l)) (hT : Opd ops E D base N i (.tmp tt) .tabs) (hE : E i = .val (.tuple #[.int .i64 (rankI F p l), .bool (rankB F p l)])) : Step Tryd.prog ops Q E D base N i :=
  step_call hop (fun _ _ => by kernel_rfl) fun a w h => by
    obtain ⟨A, c, ex, ha⟩ := hx a w h
    obtain ⟨A', c', ey, ha'⟩ := hy a w h
    have hT' : Tabs w := hT a w h
    rw [show (#[x, y] : Array Operand).map a.eval = #[.slice A (Tm.len F) c, tv p A' (Tm.len l) c'] by rw [← ex, ← ey]; simp, hE, ← rankV_eq]
    exact below_R (orank_any F p l A A' (Tm.len F) c c' w (by omega) ha ha' hT')
theorem step_rrank {i : Nat} {x y : Operand} {F : Fo} {p : Pay} {l : Fo} (hn : Tm.len F ≤ 50000) (hop : (ops[i]?).map (·.op) = some (.call { callee := .value (.func 27), args := #[x, y], argTypes := #[22, 24] })) (hx : Opd ops E D base N i x (.row F)) (hy : Opd ops E D base N i y (.term p l)) (hE : E i = .val (.tuple #[.int .i64 (rankI F p l), .bool (rankB F p l)])) : Step Tryd.prog ops Q E D base N i :=
  step_call hop (fun _ _ => by kernel_rfl) fun a w h => by
    obtain ⟨A, c, ex, ha⟩ := hx a w h
    obtain ⟨A', c', ey, ha'⟩ := hy a w h
    skip
    rw [show (#[x, y] : Array Operand).map a.eval = #[.slice A (Tm.len F) c, tv p A' (Tm.len l) c'] by rw [← ex, ← ey]; simp, hE, ← rankV_eq]
    exact below_R (rrank_any F p l A A' c c' w (by omega) ha ha')
theorem step_ocmp {i : Nat} {x y : Operand} {p q : Pay} {l m : Fo} (tt : Nat) (hop : (ops[i]?).map (·.op) = some (.call { callee := .value (.func 12), args := #[x, y], argTypes := #[24, 24] })) (hx : Opd ops E D base N i x (.term p l)) (hy : Opd ops E D base N i y (.term q m)) (hT : Opd ops E D base N i (.tmp tt) .tabs) (hE : E i = .val (.int .i64 (Tm.cmpV p l q m))) : Step Tryd.prog ops Q E D base N i :=
  step_call hop (fun _ _ => by kernel_rfl) fun a w h => by
    obtain ⟨A, c, ex, ha⟩ := hx a w h
    obtain ⟨A', c', ey, ha'⟩ := hy a w h
    have hT' : Tabs w := hT a w h
    rw [show (#[x, y] : Array Operand).map a.eval = #[tv p A (Tm.len l) c, tv q A' (Tm.len m) c'] by rw [← ex, ← ey]; simp, hE]
    exact below_R (cmp_any p l A c q m A' c' w.heap.size w ha ha' (Nat.le_refl _) hT')
theorem step_rcmp {i : Nat} {x y : Operand} {p q : Pay} {l m : Fo} (hop : (ops[i]?).map (·.op) = some (.call { callee := .value (.func 13), args := #[x, y], argTypes := #[24, 24] })) (hx : Opd ops E D base N i x (.term p l)) (hy : Opd ops E D base N i y (.term q m)) (hE : E i = .val (.int .i64 (Tm.cmpV p l q m))) : Step Tryd.prog ops Q E D base N i :=
  step_call hop (fun _ _ => by kernel_rfl) fun a w h => by
    obtain ⟨A, c, ex, ha⟩ := hx a w h
    obtain ⟨A', c', ey, ha'⟩ := hy a w h
    skip
    rw [show (#[x, y] : Array Operand).map a.eval = #[tv p A (Tm.len l) c, tv q A' (Tm.len m) c'] by rw [← ex, ← ey]; simp, hE]
    exact below_R (rcmp_any p l A c q m A' c' w.heap.size w ha ha' (Nat.le_refl _))
theorem step_rsame {i : Nat} {x y : Operand} {p q : Pay} {l m : Fo} {b : Bool} (hop : (ops[i]?).map (·.op) = some (.call { callee := .value (.func 28), args := #[x, y], argTypes := #[24, 24] })) (hx : Opd ops E D base N i x (.term p l)) (hy : Opd ops E D base N i y (.term q m)) (hb : (Tm.validB p l && Tm.sameT p l q m) = b) (hE : E i = .val (.bool b)) : Step Tryd.prog ops Q E D base N i :=
  step_call hop (fun _ _ => by kernel_rfl) fun a w h => by
    obtain ⟨A, c, ex, ha⟩ := hx a w h
    obtain ⟨A', c', ey, ha'⟩ := hy a w h
    subst hb
    rw [show (#[x, y] : Array Operand).map a.eval = #[tv p A (Tm.len l) c, tv q A' (Tm.len m) c'] by rw [← ex, ← ey]; simp, hE]
    exact below_R (rsame_any p l A c q m A' c' w.heap.size w ha ha' (Nat.le_refl _))
theorem step_sameAll {i : Nat} {x y : Operand} {F G : Fo} {b : Bool} (hn : Tm.len F ≤ 50000) (hop : (ops[i]?).map (·.op) = some (.call { callee := .value (.func 22), args := #[x, y], argTypes := #[22, 22] })) (hx : Opd ops E D base N i x (.row F)) (hy : Opd ops E D base N i y (.row G)) (hb : Tm.sameRows F G = b) (hE : E i = .val (.bool b)) : Step Tryd.prog ops Q E D base N i :=
  step_call hop (fun _ _ => by kernel_rfl) fun a w h => by
    obtain ⟨A, c, ex, ha⟩ := hx a w h
    obtain ⟨A', c', ey, ha'⟩ := hy a w h
    subst hb
    rw [show (#[x, y] : Array Operand).map a.eval = #[.slice A (Tm.len F) c, .slice A' (Tm.len G) c'] by rw [← ex, ← ey]; simp, hE]
    exact below_R (sameAll_any F G A A' (Tm.len F) (Tm.len G) c c' w.heap.size w ha ha' (by omega) (Nat.le_refl _))
theorem step_lvalid {i : Nat} {x : Operand} {F : Fo} {b : Bool} (hn : Tm.len F ≤ 50000) (hop : (ops[i]?).map (·.op) = some (.call { callee := .value (.func 23), args := #[x], argTypes := #[22] })) (hx : Opd ops E D base N i x (.row F)) (hb : Tm.allV F = b) (hE : E i = .val (.bool b)) : Step Tryd.prog ops Q E D base N i :=
  step_call hop (fun _ _ => by kernel_rfl) fun a w h => by
    obtain ⟨A, c, ex, ha⟩ := hx a w h
    subst hb
    rw [show (#[x] : Array Operand).map a.eval = #[.slice A (Tm.len F) c] by rw [← ex]; simp, hE]
    exact below_R (lvalid_any F A (Tm.len F) c w.heap.size w ha (by omega) (Nat.le_refl _))
theorem step_few {i : Nat} {x : Operand} {F : Fo} (hop : (ops[i]?).map (·.op) = some (.call { callee := .value (.func 15), args := #[x], argTypes := #[22] })) (hx : Opd ops E D base N i x (.row F)) (hE : E i = .row (Tm.takeF F 40)) : Step Tryd.prog ops Q E D base N i :=
  step_call hop (fun _ _ => by kernel_rfl) fun a w h => by
    obtain ⟨A, c, ex, ha⟩ := hx a w h
    rw [show (#[x] : Array Operand).map a.eval = #[.slice A (Tm.len F) c] by rw [← ex]; simp, hE]
    refine (few_any F A (Tm.len F) c w.heap.size w ha (Nat.le_refl _)).mono ?_
    rintro e w' ⟨A', c', rfl, ho, hb⟩
    have hl := ho.len
    refine ⟨_, rfl, ⟨A', c', by rw [hl], ?_⟩, hb⟩
    rw [hl]
    exact ho.args (by omega)
theorem step_count {i : Nat} {x y : Operand} {F : Fo} {p : Pay} {l : Fo} (hn : Tm.len F ≤ 50000) (hop : (ops[i]?).map (·.op) = some (.call { callee := .value (.func 32), args := #[x, y], argTypes := #[22, 24] })) (hx : Opd ops E D base N i x (.row F)) (hy : Opd ops E D base N i y (.term p l)) (hE : E i = .val (.int .i64 ((Tm.countF F p l : Nat) : Int))) : Step Tryd.prog ops Q E D base N i :=
  step_call hop (fun _ _ => by kernel_rfl) fun a w h => by
    obtain ⟨A, c, ex, ha⟩ := hx a w h
    obtain ⟨A', c', ey, ha'⟩ := hy a w h
    rw [show (#[x, y] : Array Operand).map a.eval = #[.slice A (Tm.len F) c, tv p A' (Tm.len l) c'] by rw [← ex, ← ey]; simp, hE]
    exact below_R (count_any F p l A A' (Tm.len F) c c' w.heap.size w ha ha' (by omega) (Nat.le_refl _))
theorem step_x {i : Nat} {x : Operand} {n : Int} (hop : (ops[i]?).map (·.op) = some (.call { callee := .value (.func 30), args := #[x], argTypes := #[2] })) (hx : Opd ops E D base N i x (.val (.int .i64 n))) (hE : E i = .term (0, n, ByteArray.empty) .nil) : Step Tryd.prog ops Q E D base N i :=
  step_call hop (fun _ _ => by kernel_rfl) fun a w h => by
    have ex : a.eval x = .int .i64 n := hx a w h
    rw [show (#[x] : Array Operand).map a.eval = #[.int .i64 n] by rw [← ex]; simp]
    exact (x_any n w).mono fun e w' ⟨he, hb⟩ => ⟨_, he, by rw [hE]; exact ⟨none, 0, rfl, ArgsIn.nil _ _ _⟩, hb⟩
theorem step_n {i : Nat} {x : Operand} {n : Int} (hop : (ops[i]?).map (·.op) = some (.call { callee := .value (.func 34), args := #[x], argTypes := #[2] })) (hx : Opd ops E D base N i x (.val (.int .i64 n))) (hE : E i = .term (1, n, ByteArray.empty) .nil) : Step Tryd.prog ops Q E D base N i :=
  step_call hop (fun _ _ => by kernel_rfl) fun a w h => by
    have ex : a.eval x = .int .i64 n := hx a w h
    rw [show (#[x] : Array Operand).map a.eval = #[.int .i64 n] by rw [← ex]; simp]
    exact (n_any n w).mono fun e w' ⟨he, hb⟩ => ⟨_, he, by rw [hE]; exact ⟨none, 0, rfl, ArgsIn.nil _ _ _⟩, hb⟩
theorem step_a {i : Nat} {x : Operand} {s : ByteArray} (hop : (ops[i]?).map (·.op) = some (.call { callee := .value (.func 35), args := #[x], argTypes := #[9] })) (hx : Opd ops E D base N i x (.val (.string s))) (hE : E i = .term (2, 0, s) .nil) : Step Tryd.prog ops Q E D base N i :=
  step_call hop (fun _ _ => by kernel_rfl) fun a w h => by
    have ex : a.eval x = .string s := hx a w h
    rw [show (#[x] : Array Operand).map a.eval = #[.string s] by rw [← ex]; simp]
    exact (a_any s w).mono fun e w' ⟨he, hb⟩ => ⟨_, he, by rw [hE]; exact ⟨none, 0, rfl, ArgsIn.nil _ _ _⟩, hb⟩
theorem step_f {i : Nat} {x y : Operand} {s : ByteArray} {F : Fo} (hop : (ops[i]?).map (·.op) = some (.call { callee := .value (.func 33), args := #[x, y], argTypes := #[9, 22] })) (hx : Opd ops E D base N i x (.val (.string s))) (hy : Opd ops E D base N i y (.row F)) (hE : E i = .term (3, 0, s) F) : Step Tryd.prog ops Q E D base N i :=
  step_call hop (fun _ _ => by kernel_rfl) fun a w h => by
    have ex : a.eval x = .string s := hx a w h
    obtain ⟨A, c, ey, ha⟩ := hy a w h
    rw [show (#[x, y] : Array Operand).map a.eval = #[.string s, .slice A (Tm.len F) c] by rw [← ex, ← ey]; simp]
    exact (f_any s A (Tm.len F) c w).mono fun e w' ⟨he, hb⟩ => ⟨_, he, by rw [hE]; exact ⟨A, c, rfl, (ha.below hb (Nat.le_refl _)).up hb.size⟩, hb⟩
theorem step_slice1 {i : Nat} {x0 : Operand} {p0 : Pay} {l0 : Fo} (hop : (ops[i]?).map (·.op) = some (.buildSlice 22 1 #[(0, x0)])) (h0 : Opd ops E D base N i x0 (.term p0 l0)) (hE : E i = .row (.node p0 l0 .nil)) : Step Tryd.prog ops Q E D base N i := by
  intro o ho a w hc K hK
  have hxo := op_of ho hop
  obtain ⟨dst, op, ty, pos, after, guard⟩ := o
  have hx' : op = _ := hxo
  subst hx'
  obtain ⟨A0, c0, e0, ha0⟩ := h0 a w hc
  have hv : Vals (fun b => b < w.heap.size) w [tv p0 A0 (Tm.len l0) c0] (.node p0 l0 .nil) := ⟨⟨A0, c0, rfl, ha0⟩, trivial⟩
  have hr := row_new w _ _ 1 24 hv rfl (by decide)
  have hrun : (execOp a.eval ⟨dst, .buildSlice 22 1 #[(0, x0)], ty, pos, after, guard⟩).run Tryd.prog w = .ok (.value (.slice (some ⟨w.heap.size, 0, none⟩) 1 1)) (w.alloc (.cells (tcells [tv p0 A0 (Tm.len l0) c0]).toArray 24)) := by
    unfold execOp
    simp only [List.map_toArray, List.map_cons, List.map_nil, e0]
    go_simp
    rfl
  unfold Oper.wp
  rw [hrun]
  exact hK _ _ (hE ▸ hr) ((Below.refl _ _).alloc (Nat.le_refl _) _)
theorem step_slice2 {i : Nat} {x0 x1 : Operand} {p0 p1 : Pay} {l0 l1 : Fo} (hop : (ops[i]?).map (·.op) = some (.buildSlice 22 2 #[(0, x0), (1, x1)])) (h0 : Opd ops E D base N i x0 (.term p0 l0)) (h1 : Opd ops E D base N i x1 (.term p1 l1)) (hE : E i = .row (.node p0 l0 (.node p1 l1 .nil))) : Step Tryd.prog ops Q E D base N i := by
  intro o ho a w hc K hK
  have hxo := op_of ho hop
  obtain ⟨dst, op, ty, pos, after, guard⟩ := o
  have hx' : op = _ := hxo
  subst hx'
  obtain ⟨A0, c0, e0, ha0⟩ := h0 a w hc
  obtain ⟨A1, c1, e1, ha1⟩ := h1 a w hc
  have hv : Vals (fun b => b < w.heap.size) w [tv p0 A0 (Tm.len l0) c0, tv p1 A1 (Tm.len l1) c1] (.node p0 l0 (.node p1 l1 .nil)) := ⟨⟨A0, c0, rfl, ha0⟩, ⟨A1, c1, rfl, ha1⟩, trivial⟩
  have hr := row_new w _ _ 2 24 hv rfl (by decide)
  have hrun : (execOp a.eval ⟨dst, .buildSlice 22 2 #[(0, x0), (1, x1)], ty, pos, after, guard⟩).run Tryd.prog w = .ok (.value (.slice (some ⟨w.heap.size, 0, none⟩) 2 2)) (w.alloc (.cells (tcells [tv p0 A0 (Tm.len l0) c0, tv p1 A1 (Tm.len l1) c1]).toArray 24)) := by
    unfold execOp
    simp only [List.map_toArray, List.map_cons, List.map_nil, e0, e1]
    go_simp
    rfl
  unfold Oper.wp
  rw [hrun]
  exact hK _ _ (hE ▸ hr) ((Below.refl _ _).alloc (Nat.le_refl _) _)
theorem step_slice3 {i : Nat} {x0 x1 x2 : Operand} {p0 p1 p2 : Pay} {l0 l1 l2 : Fo} (hop : (ops[i]?).map (·.op) = some (.buildSlice 22 3 #[(0, x0), (1, x1), (2, x2)])) (h0 : Opd ops E D base N i x0 (.term p0 l0)) (h1 : Opd ops E D base N i x1 (.term p1 l1)) (h2 : Opd ops E D base N i x2 (.term p2 l2)) (hE : E i = .row (.node p0 l0 (.node p1 l1 (.node p2 l2 .nil)))) : Step Tryd.prog ops Q E D base N i := by
  intro o ho a w hc K hK
  have hxo := op_of ho hop
  obtain ⟨dst, op, ty, pos, after, guard⟩ := o
  have hx' : op = _ := hxo
  subst hx'
  obtain ⟨A0, c0, e0, ha0⟩ := h0 a w hc
  obtain ⟨A1, c1, e1, ha1⟩ := h1 a w hc
  obtain ⟨A2, c2, e2, ha2⟩ := h2 a w hc
  have hv : Vals (fun b => b < w.heap.size) w [tv p0 A0 (Tm.len l0) c0, tv p1 A1 (Tm.len l1) c1, tv p2 A2 (Tm.len l2) c2] (.node p0 l0 (.node p1 l1 (.node p2 l2 .nil))) := ⟨⟨A0, c0, rfl, ha0⟩, ⟨A1, c1, rfl, ha1⟩, ⟨A2, c2, rfl, ha2⟩, trivial⟩
  have hr := row_new w _ _ 3 24 hv rfl (by decide)
  have hrun : (execOp a.eval ⟨dst, .buildSlice 22 3 #[(0, x0), (1, x1), (2, x2)], ty, pos, after, guard⟩).run Tryd.prog w = .ok (.value (.slice (some ⟨w.heap.size, 0, none⟩) 3 3)) (w.alloc (.cells (tcells [tv p0 A0 (Tm.len l0) c0, tv p1 A1 (Tm.len l1) c1, tv p2 A2 (Tm.len l2) c2]).toArray 24)) := by
    unfold execOp
    simp only [List.map_toArray, List.map_cons, List.map_nil, e0, e1, e2]
    go_simp
    rfl
  unfold Oper.wp
  rw [hrun]
  exact hK _ _ (hE ▸ hr) ((Below.refl _ _).alloc (Nat.le_refl _) _)
theorem step_slice4 {i : Nat} {x0 x1 x2 x3 : Operand} {p0 p1 p2 p3 : Pay} {l0 l1 l2 l3 : Fo} (hop : (ops[i]?).map (·.op) = some (.buildSlice 22 4 #[(0, x0), (1, x1), (2, x2), (3, x3)])) (h0 : Opd ops E D base N i x0 (.term p0 l0)) (h1 : Opd ops E D base N i x1 (.term p1 l1)) (h2 : Opd ops E D base N i x2 (.term p2 l2)) (h3 : Opd ops E D base N i x3 (.term p3 l3)) (hE : E i = .row (.node p0 l0 (.node p1 l1 (.node p2 l2 (.node p3 l3 .nil))))) : Step Tryd.prog ops Q E D base N i := by
  intro o ho a w hc K hK
  have hxo := op_of ho hop
  obtain ⟨dst, op, ty, pos, after, guard⟩ := o
  have hx' : op = _ := hxo
  subst hx'
  obtain ⟨A0, c0, e0, ha0⟩ := h0 a w hc
  obtain ⟨A1, c1, e1, ha1⟩ := h1 a w hc
  obtain ⟨A2, c2, e2, ha2⟩ := h2 a w hc
  obtain ⟨A3, c3, e3, ha3⟩ := h3 a w hc
  have hv : Vals (fun b => b < w.heap.size) w [tv p0 A0 (Tm.len l0) c0, tv p1 A1 (Tm.len l1) c1, tv p2 A2 (Tm.len l2) c2, tv p3 A3 (Tm.len l3) c3] (.node p0 l0 (.node p1 l1 (.node p2 l2 (.node p3 l3 .nil)))) := ⟨⟨A0, c0, rfl, ha0⟩, ⟨A1, c1, rfl, ha1⟩, ⟨A2, c2, rfl, ha2⟩, ⟨A3, c3, rfl, ha3⟩, trivial⟩
  have hr := row_new w _ _ 4 24 hv rfl (by decide)
  have hrun : (execOp a.eval ⟨dst, .buildSlice 22 4 #[(0, x0), (1, x1), (2, x2), (3, x3)], ty, pos, after, guard⟩).run Tryd.prog w = .ok (.value (.slice (some ⟨w.heap.size, 0, none⟩) 4 4)) (w.alloc (.cells (tcells [tv p0 A0 (Tm.len l0) c0, tv p1 A1 (Tm.len l1) c1, tv p2 A2 (Tm.len l2) c2, tv p3 A3 (Tm.len l3) c3]).toArray 24)) := by
    unfold execOp
    simp only [List.map_toArray, List.map_cons, List.map_nil, e0, e1, e2, e3]
    go_simp
    rfl
  unfold Oper.wp
  rw [hrun]
  exact hK _ _ (hE ▸ hr) ((Below.refl _ _).alloc (Nat.le_refl _) _)
end
end Go.Proofs.YtcjakmafojbhlaaDoor
