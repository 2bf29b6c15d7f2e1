/-
  The reference's Elems.
-/
import Derived.Test.YtapcnehpechkpaaList6
import Derived.Test.YtapcnehpechkpaaErr1
namespace Go.Proofs.Ytapcnehpechkpaa
set_option linter.unusedVariables false
set_option linter.unusedSimpArgs false
set_option maxRecDepth 100000
open Go.RowKit
noncomputable def rCons0Ops : Array Oper := ((Try.f89.body).bind (findReg 0)).getD #[]
noncomputable def rCons1Ops : Array Oper := ((Try.f89.body).bind (findReg 1)).getD #[]
theorem rCons_body : Try.f89.body = some (.seq (.region 0 rCons0Ops false) (.seq (.region 1 rCons1Ops false) .ret)) := by kernel_rfl
theorem rCons0a_region {Q : Exit → Act → World → Prop} (p0 : Pay) (l0 : Fo)  {w0 : World} {a : Act} {w : World} (h : Hold 17 [(0, .term p0 l0), (990, .sat (gP 0 none))] w0 a w)
    (hQ : ∀ a' w', Hold 17 [(990, .sat (gP 0 none)), (1, .ptrT p0 l0), (2, .val (.bool false))] w0 a' w' → Q .normal a' w') : (Code.region 0 rCons0Ops false).wp Try.prog Q a w := by
  refine region_seq (w0 := w) 2 (by kernel_rfl) ?_
  rw [show List.range 2 = [0, 1] from rfl]
  refine env_one (i := 0) (d := 1) (k := .ptrT p0 l0) (step_box (by kernel_rfl) (Opd.of_base 0 rfl) rfl) (by kernel_rfl) (by decide) h ?_
  clear h
  intro a w h
  refine env_one (i := 1) (d := 2) (k := .val (.bool false)) (step_assign (by kernel_rfl) (Opd.const _) rfl) (by kernel_rfl) (by decide) h ?_
  clear h
  intro a w h
  exact hQ a w (h.keep [990, 1, 2])
theorem rCons1a_region {Q : Exit → Act → World → Prop} (p0 : Pay) (l0 : Fo) (h1 : ¬ p0.1 = 3) {w0 : World} {a : Act} {w : World} (h : Hold 17 [(990, .sat (gP 0 none)), (1, .ptrT p0 l0), (2, .val (.bool false))] w0 a w)
    (hQ : ∀ a' w', Hold 17 [(990, .sat (gP 0 none)), (2, .val (.bool false))] w0 a' w' → Q .normal a' w') : (Code.region 1 rCons1Ops false).wp Try.prog Q a w := by
  refine region_seq (w0 := w) 15 (by kernel_rfl) ?_
  rw [show List.range 15 = [0, 1, 2, 3, 4, 5, 6, 7, 8, 9, 10, 11, 12, 13, 14] from rfl]
  refine env_one (i := 0) (d := 3) (k := .ptrI (p0.1)) (step_field0 (by kernel_rfl) (Opd.of_base 1 rfl) rfl) (by kernel_rfl) (by decide) h ?_
  clear h
  intro a w h
  refine env_one (i := 1) (d := 4) (k := .val (.int .i64 (p0.1))) (step_load_int3 (by kernel_rfl) (Opd.of_base 3 rfl) rfl) (by kernel_rfl) (by decide) h ?_
  clear h
  intro a w h
  refine env_one (i := 2) (d := 5) (k := .val (.bool false)) (step_eqb_int (m := (p0.1)) (n := 3) (by kernel_rfl) (Opd.of_base 4 rfl) (Opd.const _) (by simpa using h1) rfl) (by kernel_rfl) (by decide) h ?_
  clear h
  intro a w h
  refine env_one (i := 3) (d := 6) (k := .val (.bool false)) (step_move (by kernel_rfl) (Opd.of_base 5 rfl) rfl) (by kernel_rfl) (by decide) h ?_
  clear h
  intro a w h
  refine env_skip (i := 4) (d := 7) (g := 3) (dg := 6) (b := true) (by kernel_rfl) (by decide) (by kernel_rfl) rfl rfl h ?_
  clear h
  intro a w h
  refine env_skip (i := 5) (d := 8) (g := 3) (dg := 6) (b := true) (by kernel_rfl) (by decide) (by kernel_rfl) rfl rfl h ?_
  clear h
  intro a w h
  refine env_skip (i := 6) (d := 9) (g := 3) (dg := 6) (b := true) (by kernel_rfl) (by decide) (by kernel_rfl) rfl rfl h ?_
  clear h
  intro a w h
  refine env_one (i := 7) (d := 10) (k := .val (.bool false)) (step_pick_no (x := .tmp 9) (by kernel_rfl) (Opd.of_base 6 rfl) (Opd.const _) rfl) (by kernel_rfl) (by decide) h ?_
  clear h
  intro a w h
  refine env_one (i := 8) (d := 11) (k := .val (.bool false)) (step_move (by kernel_rfl) (Opd.of_base 10 rfl) rfl) (by kernel_rfl) (by decide) h ?_
  clear h
  intro a w h
  refine env_skip (i := 9) (d := 12) (g := 8) (dg := 11) (b := true) (by kernel_rfl) (by decide) (by kernel_rfl) rfl rfl h ?_
  clear h
  intro a w h
  refine env_skip (i := 10) (d := 13) (g := 8) (dg := 11) (b := true) (by kernel_rfl) (by decide) (by kernel_rfl) rfl rfl h ?_
  clear h
  intro a w h
  refine env_skip (i := 11) (d := 14) (g := 8) (dg := 11) (b := true) (by kernel_rfl) (by decide) (by kernel_rfl) rfl rfl h ?_
  clear h
  intro a w h
  refine env_skip (i := 12) (d := 15) (g := 8) (dg := 11) (b := true) (by kernel_rfl) (by decide) (by kernel_rfl) rfl rfl h ?_
  clear h
  intro a w h
  refine env_one (i := 13) (d := 16) (k := .val (.bool false)) (step_pick_no (x := .tmp 15) (by kernel_rfl) (Opd.of_base 11 rfl) (Opd.const _) rfl) (by kernel_rfl) (by decide) h ?_
  clear h
  intro a w h
  refine env_one (i := 14) (d := 2) (k := .val (.bool false)) (step_assign (by kernel_rfl) (Opd.of_base 16 rfl) rfl) (by kernel_rfl) (by decide) h ?_
  clear h
  intro a w h
  exact hQ a w (h.keep [990, 2])
theorem rCons1b_region {Q : Exit → Act → World → Prop} (p0 : Pay) (l0 : Fo) (h1 : p0.1 = 3) (h2 : ¬ p0.2.2 = (⟨#[46]⟩ : ByteArray)) {w0 : World} {a : Act} {w : World} (h : Hold 17 [(990, .sat (gP 0 none)), (1, .ptrT p0 l0), (2, .val (.bool false))] w0 a w)
    (hQ : ∀ a' w', Hold 17 [(990, .sat (gP 0 none)), (2, .val (.bool false))] w0 a' w' → Q .normal a' w') : (Code.region 1 rCons1Ops false).wp Try.prog Q a w := by
  refine region_seq (w0 := w) 15 (by kernel_rfl) ?_
  rw [show List.range 15 = [0, 1, 2, 3, 4, 5, 6, 7, 8, 9, 10, 11, 12, 13, 14] from rfl]
  refine env_one (i := 0) (d := 3) (k := .ptrI (p0.1)) (step_field0 (by kernel_rfl) (Opd.of_base 1 rfl) rfl) (by kernel_rfl) (by decide) h ?_
  clear h
  intro a w h
  refine env_one (i := 1) (d := 4) (k := .val (.int .i64 (p0.1))) (step_load_int3 (by kernel_rfl) (Opd.of_base 3 rfl) rfl) (by kernel_rfl) (by decide) h ?_
  clear h
  intro a w h
  refine env_one (i := 2) (d := 5) (k := .val (.bool true)) (step_eqb_int (m := (p0.1)) (n := 3) (by kernel_rfl) (Opd.of_base 4 rfl) (Opd.const _) (by rw [h1]; simp) rfl) (by kernel_rfl) (by decide) h ?_
  clear h
  intro a w h
  refine env_one (i := 3) (d := 6) (k := .val (.bool true)) (step_move (by kernel_rfl) (Opd.of_base 5 rfl) rfl) (by kernel_rfl) (by decide) h ?_
  clear h
  intro a w h
  refine env_guard (i := 4) (d := 7) (g := 3) (dg := 6) (b := true) (k := .ptrS (p0.2.2)) (step_field2 (by kernel_rfl) (Opd.of_base 1 rfl) rfl) (by kernel_rfl) (by decide) (by kernel_rfl) (by decide) rfl h ?_
  clear h
  intro a w h
  refine env_guard (i := 5) (d := 8) (g := 3) (dg := 6) (b := true) (k := .val (.string (p0.2.2))) (step_load_string (by kernel_rfl) (Opd.of_base 7 rfl) rfl) (by kernel_rfl) (by decide) (by kernel_rfl) (by decide) rfl h ?_
  clear h
  intro a w h
  refine env_guard (i := 6) (d := 9) (g := 3) (dg := 6) (b := true) (k := .val (.bool false)) (step_eqb_str (s := (p0.2.2)) (t := ⟨#[46]⟩) (by kernel_rfl) (Opd.of_base 8 rfl) (Opd.const _) (decide_eq_false h2) rfl) (by kernel_rfl) (by decide) (by kernel_rfl) (by decide) rfl h ?_
  clear h
  intro a w h
  refine env_one (i := 7) (d := 10) (k := .val (.bool false)) (step_pick_yes (y := .const (.bool false)) (by kernel_rfl) (Opd.of_base 6 rfl) (Opd.of_base 9 rfl) rfl) (by kernel_rfl) (by decide) h ?_
  clear h
  intro a w h
  refine env_one (i := 8) (d := 11) (k := .val (.bool false)) (step_move (by kernel_rfl) (Opd.of_base 10 rfl) rfl) (by kernel_rfl) (by decide) h ?_
  clear h
  intro a w h
  refine env_skip (i := 9) (d := 12) (g := 8) (dg := 11) (b := true) (by kernel_rfl) (by decide) (by kernel_rfl) rfl rfl h ?_
  clear h
  intro a w h
  refine env_skip (i := 10) (d := 13) (g := 8) (dg := 11) (b := true) (by kernel_rfl) (by decide) (by kernel_rfl) rfl rfl h ?_
  clear h
  intro a w h
  refine env_skip (i := 11) (d := 14) (g := 8) (dg := 11) (b := true) (by kernel_rfl) (by decide) (by kernel_rfl) rfl rfl h ?_
  clear h
  intro a w h
  refine env_skip (i := 12) (d := 15) (g := 8) (dg := 11) (b := true) (by kernel_rfl) (by decide) (by kernel_rfl) rfl rfl h ?_
  clear h
  intro a w h
  refine env_one (i := 13) (d := 16) (k := .val (.bool false)) (step_pick_no (x := .tmp 15) (by kernel_rfl) (Opd.of_base 11 rfl) (Opd.const _) rfl) (by kernel_rfl) (by decide) h ?_
  clear h
  intro a w h
  refine env_one (i := 14) (d := 2) (k := .val (.bool false)) (step_assign (by kernel_rfl) (Opd.of_base 16 rfl) rfl) (by kernel_rfl) (by decide) h ?_
  clear h
  intro a w h
  exact hQ a w (h.keep [990, 2])
theorem rCons1c_region {Q : Exit → Act → World → Prop} (p0 : Pay) (l0 : Fo) (h1 : p0.1 = 3) (h2 : p0.2.2 = (⟨#[46]⟩ : ByteArray)) (h3 : ¬ ((Tm.len l0 : Nat) : Int) = 2) {w0 : World} {a : Act} {w : World} (h : Hold 17 [(990, .sat (gP 0 none)), (1, .ptrT p0 l0), (2, .val (.bool false))] w0 a w)
    (hQ : ∀ a' w', Hold 17 [(990, .sat (gP 0 none)), (2, .val (.bool false))] w0 a' w' → Q .normal a' w') : (Code.region 1 rCons1Ops false).wp Try.prog Q a w := by
  refine region_seq (w0 := w) 15 (by kernel_rfl) ?_
  rw [show List.range 15 = [0, 1, 2, 3, 4, 5, 6, 7, 8, 9, 10, 11, 12, 13, 14] from rfl]
  refine env_one (i := 0) (d := 3) (k := .ptrI (p0.1)) (step_field0 (by kernel_rfl) (Opd.of_base 1 rfl) rfl) (by kernel_rfl) (by decide) h ?_
  clear h
  intro a w h
  refine env_one (i := 1) (d := 4) (k := .val (.int .i64 (p0.1))) (step_load_int3 (by kernel_rfl) (Opd.of_base 3 rfl) rfl) (by kernel_rfl) (by decide) h ?_
  clear h
  intro a w h
  refine env_one (i := 2) (d := 5) (k := .val (.bool true)) (step_eqb_int (m := (p0.1)) (n := 3) (by kernel_rfl) (Opd.of_base 4 rfl) (Opd.const _) (by rw [h1]; simp) rfl) (by kernel_rfl) (by decide) h ?_
  clear h
  intro a w h
  refine env_one (i := 3) (d := 6) (k := .val (.bool true)) (step_move (by kernel_rfl) (Opd.of_base 5 rfl) rfl) (by kernel_rfl) (by decide) h ?_
  clear h
  intro a w h
  refine env_guard (i := 4) (d := 7) (g := 3) (dg := 6) (b := true) (k := .ptrS (p0.2.2)) (step_field2 (by kernel_rfl) (Opd.of_base 1 rfl) rfl) (by kernel_rfl) (by decide) (by kernel_rfl) (by decide) rfl h ?_
  clear h
  intro a w h
  refine env_guard (i := 5) (d := 8) (g := 3) (dg := 6) (b := true) (k := .val (.string (p0.2.2))) (step_load_string (by kernel_rfl) (Opd.of_base 7 rfl) rfl) (by kernel_rfl) (by decide) (by kernel_rfl) (by decide) rfl h ?_
  clear h
  intro a w h
  refine env_guard (i := 6) (d := 9) (g := 3) (dg := 6) (b := true) (k := .val (.bool true)) (step_eqb_str (s := (p0.2.2)) (t := ⟨#[46]⟩) (by kernel_rfl) (Opd.of_base 8 rfl) (Opd.const _) (decide_eq_true h2) rfl) (by kernel_rfl) (by decide) (by kernel_rfl) (by decide) rfl h ?_
  clear h
  intro a w h
  refine env_one (i := 7) (d := 10) (k := .val (.bool true)) (step_pick_yes (y := .const (.bool false)) (by kernel_rfl) (Opd.of_base 6 rfl) (Opd.of_base 9 rfl) rfl) (by kernel_rfl) (by decide) h ?_
  clear h
  intro a w h
  refine env_one (i := 8) (d := 11) (k := .val (.bool true)) (step_move (by kernel_rfl) (Opd.of_base 10 rfl) rfl) (by kernel_rfl) (by decide) h ?_
  clear h
  intro a w h
  refine env_guard (i := 9) (d := 12) (g := 8) (dg := 11) (b := true) (k := .ptrR l0) (step_field3 (by kernel_rfl) (Opd.of_base 1 rfl) rfl) (by kernel_rfl) (by decide) (by kernel_rfl) (by decide) rfl h ?_
  clear h
  intro a w h
  refine env_guard (i := 10) (d := 13) (g := 8) (dg := 11) (b := true) (k := .row l0) (step_load_row (by kernel_rfl) (Opd.of_base 12 rfl) rfl) (by kernel_rfl) (by decide) (by kernel_rfl) (by decide) rfl h ?_
  clear h
  intro a w h
  refine env_guard (i := 11) (d := 14) (g := 8) (dg := 11) (b := true) (k := .val (.int .i64 ((Tm.len l0 : Nat) : Int))) (step_len_row (by kernel_rfl) (Opd.of_base 13 rfl) rfl) (by kernel_rfl) (by decide) (by kernel_rfl) (by decide) rfl h ?_
  clear h
  intro a w h
  refine env_guard (i := 12) (d := 15) (g := 8) (dg := 11) (b := true) (k := .val (.bool false)) (step_eqb_int (m := ((Tm.len l0 : Nat) : Int)) (n := 2) (by kernel_rfl) (Opd.of_base 14 rfl) (Opd.const _) (by simpa using h3) rfl) (by kernel_rfl) (by decide) (by kernel_rfl) (by decide) rfl h ?_
  clear h
  intro a w h
  refine env_one (i := 13) (d := 16) (k := .val (.bool false)) (step_pick_yes (y := .const (.bool false)) (by kernel_rfl) (Opd.of_base 11 rfl) (Opd.of_base 15 rfl) rfl) (by kernel_rfl) (by decide) h ?_
  clear h
  intro a w h
  refine env_one (i := 14) (d := 2) (k := .val (.bool false)) (step_assign (by kernel_rfl) (Opd.of_base 16 rfl) rfl) (by kernel_rfl) (by decide) h ?_
  clear h
  intro a w h
  exact hQ a w (h.keep [990, 2])
theorem rCons1d_region {Q : Exit → Act → World → Prop} (p0 : Pay) (l0 : Fo) (h1 : p0.1 = 3) (h2 : p0.2.2 = (⟨#[46]⟩ : ByteArray)) (h3 : ((Tm.len l0 : Nat) : Int) = 2) {w0 : World} {a : Act} {w : World} (h : Hold 17 [(990, .sat (gP 0 none)), (1, .ptrT p0 l0), (2, .val (.bool false))] w0 a w)
    (hQ : ∀ a' w', Hold 17 [(990, .sat (gP 0 none)), (2, .val (.bool true))] w0 a' w' → Q .normal a' w') : (Code.region 1 rCons1Ops false).wp Try.prog Q a w := by
  refine region_seq (w0 := w) 15 (by kernel_rfl) ?_
  rw [show List.range 15 = [0, 1, 2, 3, 4, 5, 6, 7, 8, 9, 10, 11, 12, 13, 14] from rfl]
  refine env_one (i := 0) (d := 3) (k := .ptrI (p0.1)) (step_field0 (by kernel_rfl) (Opd.of_base 1 rfl) rfl) (by kernel_rfl) (by decide) h ?_
  clear h
  intro a w h
  refine env_one (i := 1) (d := 4) (k := .val (.int .i64 (p0.1))) (step_load_int3 (by kernel_rfl) (Opd.of_base 3 rfl) rfl) (by kernel_rfl) (by decide) h ?_
  clear h
  intro a w h
  refine env_one (i := 2) (d := 5) (k := .val (.bool true)) (step_eqb_int (m := (p0.1)) (n := 3) (by kernel_rfl) (Opd.of_base 4 rfl) (Opd.const _) (by rw [h1]; simp) rfl) (by kernel_rfl) (by decide) h ?_
  clear h
  intro a w h
  refine env_one (i := 3) (d := 6) (k := .val (.bool true)) (step_move (by kernel_rfl) (Opd.of_base 5 rfl) rfl) (by kernel_rfl) (by decide) h ?_
  clear h
  intro a w h
  refine env_guard (i := 4) (d := 7) (g := 3) (dg := 6) (b := true) (k := .ptrS (p0.2.2)) (step_field2 (by kernel_rfl) (Opd.of_base 1 rfl) rfl) (by kernel_rfl) (by decide) (by kernel_rfl) (by decide) rfl h ?_
  clear h
  intro a w h
  refine env_guard (i := 5) (d := 8) (g := 3) (dg := 6) (b := true) (k := .val (.string (p0.2.2))) (step_load_string (by kernel_rfl) (Opd.of_base 7 rfl) rfl) (by kernel_rfl) (by decide) (by kernel_rfl) (by decide) rfl h ?_
  clear h
  intro a w h
  refine env_guard (i := 6) (d := 9) (g := 3) (dg := 6) (b := true) (k := .val (.bool true)) (step_eqb_str (s := (p0.2.2)) (t := ⟨#[46]⟩) (by kernel_rfl) (Opd.of_base 8 rfl) (Opd.const _) (decide_eq_true h2) rfl) (by kernel_rfl) (by decide) (by kernel_rfl) (by decide) rfl h ?_
  clear h
  intro a w h
  refine env_one (i := 7) (d := 10) (k := .val (.bool true)) (step_pick_yes (y := .const (.bool false)) (by kernel_rfl) (Opd.of_base 6 rfl) (Opd.of_base 9 rfl) rfl) (by kernel_rfl) (by decide) h ?_
  clear h
  intro a w h
  refine env_one (i := 8) (d := 11) (k := .val (.bool true)) (step_move (by kernel_rfl) (Opd.of_base 10 rfl) rfl) (by kernel_rfl) (by decide) h ?_
  clear h
  intro a w h
  refine env_guard (i := 9) (d := 12) (g := 8) (dg := 11) (b := true) (k := .ptrR l0) (step_field3 (by kernel_rfl) (Opd.of_base 1 rfl) rfl) (by kernel_rfl) (by decide) (by kernel_rfl) (by decide) rfl h ?_
  clear h
  intro a w h
  refine env_guard (i := 10) (d := 13) (g := 8) (dg := 11) (b := true) (k := .row l0) (step_load_row (by kernel_rfl) (Opd.of_base 12 rfl) rfl) (by kernel_rfl) (by decide) (by kernel_rfl) (by decide) rfl h ?_
  clear h
  intro a w h
  refine env_guard (i := 11) (d := 14) (g := 8) (dg := 11) (b := true) (k := .val (.int .i64 ((Tm.len l0 : Nat) : Int))) (step_len_row (by kernel_rfl) (Opd.of_base 13 rfl) rfl) (by kernel_rfl) (by decide) (by kernel_rfl) (by decide) rfl h ?_
  clear h
  intro a w h
  refine env_guard (i := 12) (d := 15) (g := 8) (dg := 11) (b := true) (k := .val (.bool true)) (step_eqb_int (m := ((Tm.len l0 : Nat) : Int)) (n := 2) (by kernel_rfl) (Opd.of_base 14 rfl) (Opd.const _) (by rw [h3]; simp) rfl) (by kernel_rfl) (by decide) (by kernel_rfl) (by decide) rfl h ?_
  clear h
  intro a w h
  refine env_one (i := 13) (d := 16) (k := .val (.bool true)) (step_pick_yes (y := .const (.bool false)) (by kernel_rfl) (Opd.of_base 11 rfl) (Opd.of_base 15 rfl) rfl) (by kernel_rfl) (by decide) h ?_
  clear h
  intro a w h
  refine env_one (i := 14) (d := 2) (k := .val (.bool true)) (step_assign (by kernel_rfl) (Opd.of_base 16 rfl) rfl) (by kernel_rfl) (by decide) h ?_
  clear h
  intro a w h
  exact hQ a w (h.keep [990, 2])
set_option maxHeartbeats 1000000 in
theorem rCons_any (p0 : Pay) (l0 : Fo) (A0 : Option Addr) (c0 : Nat) (B : Nat) (w : World) (hA0 : ArgsB w B A0 (Tm.len l0) l0) (hB : B ≤ w.heap.size)  : Calls Try.prog 89 #[tv p0 A0 (Tm.len l0) c0] w (fun e w' => e = .returned (.bool (Bl.isS p0 l0 ⟨#[46]⟩ 2)) ∧ Below w.heap.size w w') := by
  refine calls_of_wp Try.func89 rCons_body ?_
  obtain ⟨v0, hv0⟩ : ∃ v : Value, v = tv p0 A0 (Tm.len l0) c0 := ⟨_, rfl⟩
  rw [← hv0]
  have hk0 : (Kd.term p0 l0).R v0 w := by rw [hv0]; exact ⟨A0, c0, rfl, hA0.up hB⟩
  have hsN : (#[v0] ++ Array.replicate (Try.f89.ntmps - #[v0].size) undef : Array Value).size = 17 := by kernel_rfl
  have gs0 : (#[v0] ++ Array.replicate (Try.f89.ntmps - #[v0].size) undef : Array Value).getD 0 undef = v0 := by kernel_rfl
  generalize (#[v0] ++ Array.replicate (Try.f89.ntmps - #[v0].size) undef : Array Value) = tm at hsN gs0 ⊢
  obtain ⟨a, ha0⟩ : ∃ a : Act, a = ⟨tm, []⟩ := ⟨_, rfl⟩
  have h : Hold 17 [(0, .term p0 l0), (990, .sat (gP 0 none))] w ⟨tm, []⟩ w := ⟨hsN, rfl, Below.refl _ _, (slots_cons 0 (by rw [gs0]; exact hk0) (slots_cons 990 (k0 := .sat (gP 0 none)) ⟨Nat.zero_le _, fun r e => by cases e⟩ slots_nil))⟩
  refine wp_seq ?_
  refine rCons0a_region p0 l0  h ?_
  intro a w1 h
  show Code.wp _ _ _ a w1
  refine wp_seq ?_
  by_cases h1 : p0.1 = 3
  rotate_left
  · refine rCons1a_region p0 l0 h1 h ?_
    intro a w1 h
    show Code.wp _ _ _ a w1
    have ev : Bl.isS p0 l0 ⟨#[46]⟩ 2 = false := by simp [Bl.isS, h1]
    rw [ev]
    refine wp_ret ?_
    (try simp only [then_ret, block_ret])
    exact law_out rfl (h.get 2 rfl) h.defers ⟨rfl, h.world⟩
  by_cases h2 : p0.2.2 = (⟨#[46]⟩ : ByteArray)
  rotate_left
  · refine rCons1b_region p0 l0 h1 h2 h ?_
    intro a w1 h
    show Code.wp _ _ _ a w1
    have ev : Bl.isS p0 l0 ⟨#[46]⟩ 2 = false := by simp [Bl.isS, h1, h2]
    rw [ev]
    refine wp_ret ?_
    (try simp only [then_ret, block_ret])
    exact law_out rfl (h.get 2 rfl) h.defers ⟨rfl, h.world⟩
  by_cases h3 : ((Tm.len l0 : Nat) : Int) = 2
  rotate_left
  · refine rCons1c_region p0 l0 h1 h2 h3 h ?_
    intro a w1 h
    show Code.wp _ _ _ a w1
    have ev : Bl.isS p0 l0 ⟨#[46]⟩ 2 = false := by simp [Bl.isS, h1, h2, h3]
    rw [ev]
    refine wp_ret ?_
    (try simp only [then_ret, block_ret])
    exact law_out rfl (h.get 2 rfl) h.defers ⟨rfl, h.world⟩
  · refine rCons1d_region p0 l0 h1 h2 h3 h ?_
    intro a w1 h
    show Code.wp _ _ _ a w1
    have ev : Bl.isS p0 l0 ⟨#[46]⟩ 2 = true := by simp [Bl.isS, h1, h2, h3]
    rw [ev]
    refine wp_ret ?_
    (try simp only [then_ret, block_ret])
    exact law_out rfl (h.get 2 rfl) h.defers ⟨rfl, h.world⟩
section
variable {ops : Array Oper} {Q : Exit → Act → World → Prop} {E : Nat → Kd} {D : Nat → Nat} {base : Nat → Option Kd} {N : Nat}
theorem step_rCons {i : Nat} {x0 : Operand} {p0 : Pay} {l0 : Fo} (hop : (ops[i]?).map (·.op) = some (.call { callee := .value (.func 89), args := #[x0], argTypes := #[24] })) (h0 : Opd ops E D base N i x0 (.term p0 l0)) (hE : E i = .val ((.bool (Bl.isS p0 l0 ⟨#[46]⟩ 2)))) : Step Try.prog ops Q E D base N i :=
  step_call hop (fun _ _ => by kernel_rfl) fun a w h => by
    obtain ⟨A0, c0, e0, ha0⟩ := h0 a w h
    rw [show (#[x0] : Array Operand).map a.eval = #[tv p0 A0 (Tm.len l0) c0] by rw [← e0]; simp]
    exact (rCons_any p0 l0 A0 c0 w.heap.size w ha0 (Nat.le_refl _)).mono fun e w' ⟨he, hbl⟩ => ⟨_, he, by rw [hE]; rfl, hbl⟩
end
theorem tmp_result_term {fn : Func} {q u : Tmp} (h : fn.results = #[.tmp q, .cell u 24]) (tmps : Array Value) (w : World) (b : Nat) (p : Pay) (A : Option Addr) (n c : Nat) (x : Value) (hx : tmps.getD q undef = x) (hp : tmps.getD u undef = .pointer (some ⟨b, 0, none⟩)) (ht : TermAt w b p A n c) :
    (results fn tmps).run Try.prog w = .ok (.tuple #[x, tv p A n c]) w := by
  have hp' : tmps[u]?.getD undef = .pointer (some ⟨b, 0, none⟩) := by simpa using hp
  have hx' : tmps[q]?.getD undef = x := by simpa using hx
  simp [results, h, hp', hx', asAddr, load_cellT w b p A n c ht]
def MkL2 (F : Fo) (p : Pay) (l : Fo) (w : World) (e : Ending) (w' : World) : Prop :=
  ∃ A1 c1 A2 c2, e = .returned (.tuple #[.slice A1 (Tm.len F) c1, tv p A2 (Tm.len l) c2]) ∧ ArgsIn (fun b => w.heap.size ≤ b ∧ b < w'.heap.size) w' A1 (Tm.len F) F ∧ ArgsIn (fun b => w.heap.size ≤ b ∧ b < w'.heap.size) w' A2 (Tm.len l) l ∧ Below w.heap.size w w'
set_option maxHeartbeats 4000000 in
theorem relems_any (p : Pay) (l : Fo) (A : Option Addr) (c B : Nat) (w : World) (hA : ArgsB w B A (Tm.len l) l) (hB : B ≤ w.heap.size) :
    Calls Try.prog 74 #[tv p A (Tm.len l) c] w (MkL2 (Tm.elemsFn p l).1 (Tm.elemsFn p l).2.1 (Tm.elemsFn p l).2.2 w) := by
  have V1 := Lib.hid fun (w1 : World) (h1 : ArgsB w1 B A (Tm.len l) l) (h2 : B ≤ w1.heap.size) => rvalid_any p l A c B w1 h1 h2
  have BX := Lib.hid (two_boxes w)
  unfold Tm.elemsFn MkL2
  cases hv : Tm.validB p l
  · rw [hv] at V1
    rw [show (if false = true then Tm.elemsOf p l else (Fo.nil, zp, Fo.nil)) = (Fo.nil, zp, Fo.nil) from if_neg (by decide)]
    obtain ⟨n, hn⟩ : ∃ n, n = Tm.len l := ⟨_, rfl⟩
    rw [← hn] at hA V1 ⊢
    have HA := Lib.hid hA
    clear hv hA hn
    go_enter Try.func74, Try.ntmps74
    go_wp2_with fail
    refine (V1.out _ ?_ ?_).mono ?_
    · exact HA.out.below (BX.out _ _) hB
    · simp; omega
    rintro e w1 ⟨rfl, hb1⟩
    have hsz := hb1.size
    simp at hsz
    have hr : ResAt w1 (w.heap.size + 1) := (ResAt.new (w.alloc _) 24 _ (by simp)).below hb1 (by simp)
    have hw1 : w.heap.size + 1 < w1.heap.size := by omega
    have r0 := hr.t.kind
    have r1 := hr.t.num
    have r2 := hr.t.name
    have r3 := hr.t.args
    have q0 := hr.s.s0
    have q1 := hr.s.s1
    have q2 := hr.s.s2
    have q3 := hr.s.s3
    have HB1 := Lib.hid ((BX.out _ _).trans (hb1.mono (by simp; omega)) : Below w.heap.size w w1)
    have HR := Lib.hid hr
    clear hb1 hr
    go_wp2_with fail
    have st := stored w1 (w.heap.size + 1) zp zp none none 0 0 0 0 HR.out.t HR.out.s
    show bodyPost _ _ _ _ _ (set4 w1 (w.heap.size + 1) 0 zp none 0 0)
    generalize set4 w1 (w.heap.size + 1) 0 zp none 0 0 = w2 at st ⊢
    refine bodyPost_ret (tmp_result_term (q := 2) (u := 3) rfl _ _ (w.heap.size + 1) zp none 0 0 (.slice none 0 0) rfl rfl st.term) rfl ?_
    exact ⟨none, 0, none, 0, rfl, ArgsIn.nil _ _ _, ArgsIn.nil _ _ _, st.below _ _ HB1.out (by omega)⟩
  rw [hv] at V1
  rw [show (if true = true then Tm.elemsOf p l else (Fo.nil, zp, Fo.nil)) = Tm.elemsOf p l from if_pos rfl]
  have hgood : Tm.goodB p l = true := by unfold Tm.validB at hv; rw [Bool.and_eq_true] at hv; exact hv.2
  have hsize : 1 + Tm.size l ≤ 2000 := by unfold Tm.validB at hv; rw [Bool.and_eq_true, decide_eq_true_eq] at hv; exact hv.1
  obtain ⟨q, hq⟩ : ∃ q, q = Tm.elemsOf p l := ⟨_, rfl⟩
  rw [← hq]
  obtain ⟨n, hn⟩ : ∃ n, n = Tm.len l := ⟨_, rfl⟩
  rw [← hn] at hA V1 ⊢
  have HA := Lib.hid hA
  have HN := Lib.hid hn
  have HQ := Lib.hid hq
  have HG := Lib.hid hgood
  have HS := Lib.hid hsize
  obtain ⟨i0, hi0, hz0, hz1, hz2⟩ := term_parts
  clear hv hA hn hq hgood hsize
  go_enter Try.func74, Try.ntmps74
  go_wp2_with fail
  refine (V1.out _ ?_ ?_).mono ?_
  · exact HA.out.below (BX.out _ _) hB
  · simp; omega
  rintro e w0 ⟨rfl, hb0⟩
  have hsz0 := hb0.size
  simp at hsz0
  have hta : TermAt w0 w.heap.size p A n c := ((TermAt.new w p A n c 24).below (B := w.heap.size + 1) ((Below.refl _ _).alloc (by simp) _) (by omega)).below hb0 (by simp; omega)
  have hsa : SoftAt w0 w.heap.size := ((SoftAt.new w _ 24).same (Below.heap_alloc _ _ _ (by simp))).same (hb0.block _ (by simp; omega))
  have hres : ResAt w0 (w.heap.size + 1) := (ResAt.new (w.alloc _) 24 _ (by simp)).below hb0 (by simp)
  have HT0 := Lib.hid hta
  have HS0 := Lib.hid hsa
  have HR0 := Lib.hid hres
  have HB0 := Lib.hid ((BX.out _ _).trans (hb0.mono (by simp; omega)) : Below w.heap.size w w0)
  have hw0 : w.heap.size + 1 < w0.heap.size := by omega
  clear hta hsa hres hb0 hsz0
  go_wp2_with fail
  go_loopw [4] (fun u wr => ∃ (k : Nat) (vs : List Value) (acc : Fo) (Ac : Option Addr) (cc : Nat) (p1 : Pay) (l1 : Fo) (A1 : Option Addr) (c1 : Nat), u = .slice Ac k cc ∧ q = (Tm.app acc (Tm.elemsOf p1 l1).1, (Tm.elemsOf p1 l1).2) ∧ RowSt (w.heap.size + 1) wr vs acc Ac k cc ∧
    TermAt wr w.heap.size p1 A1 (Tm.len l1) c1 ∧ SoftAt wr w.heap.size ∧ ResAt wr (w.heap.size + 1) ∧ ArgsB wr B A1 (Tm.len l1) l1 ∧ Tm.goodB p1 l1 = true ∧ k + 1 + Tm.size l1 ≤ 2000 ∧ Below w.heap.size w wr) (fun u _ => match u with | .slice _ k _ => 3000 - k | _ => 0)
  case atStart =>
    exact ⟨0, [], .nil, none, 0, p, l, A, c, rfl, HQ.out, RowSt.start _ _ hw0, by rw [← HN.out]; exact HT0.out, HS0.out, HR0.out, by rw [← HN.out]; exact HA.out.below HB0.out hB, HG.out, by have := HS.out; omega, HB0.out⟩
  case round =>
    obtain ⟨k, vs, acc, Ac, cc, p1, l1, A1, c1, rfl, hel, hrow, hta, hsa, hres, hargs, hgood, hsz, hbl⟩ := hrel
    have hwr : w.heap.size + 1 < wr.heap.size := hrow.size
    have hwr0 : w.heap.size < wr.heap.size := by omega
    have x0 := hta.kind
    have x1 := hta.num
    have x2 := hta.name
    have x3 := hta.args
    have HEL := Lib.hid hel
    have HROW := Lib.hid hrow
    have HT := Lib.hid hta
    have HSA := Lib.hid hsa
    have HR := Lib.hid hres
    have HAR := Lib.hid hargs
    have HGD := Lib.hid hgood
    have HB1 := Lib.hid hbl
    have C0 := Lib.hid fun (w1 : World) (h1 : ArgsB w1 B A1 (Tm.len l1) l1) (h2 : B ≤ w1.heap.size) => rCons_any p1 l1 A1 c1 B w1 h1 h2
    obtain ⟨v, hv⟩ : ∃ v, v = Bl.isS p1 l1 ⟨#[46]⟩ 2 := ⟨_, rfl⟩
    rw [← hv] at C0
    have HV := Lib.hid hv
    clear hel hrow hta hsa hres hargs hgood hbl hv
    cases v
    · have hend := Tm.elemsOf_end (p := p1) (l := l1) (fun h => by have := HV.out; rw [Bl.isS_dot.2 h] at this; cases this)
      rw [hend] at HEL
      have hvt : Tm.validB p1 l1 = true := by
        unfold Tm.validB
        rw [HGD.out, Bool.and_true, decide_eq_true_eq]
        omega
      have C1 := Lib.hid fun (w2 : World) (h2 : ArgsB w2 B A1 (Tm.len l1) l1) (h3 : B ≤ w2.heap.size) => rcopied_any p1 l1 A1 c1 B w2 hvt h2 h3
      unfold Makes at C1
      obtain ⟨n1, hn1⟩ : ∃ n1, n1 = Tm.len l1 := ⟨_, rfl⟩
      rw [← hn1] at C0 C1 HAR x3 HT
      have HN1 := Lib.hid hn1
      have hkn : k ≤ 2000 := by omega
      clear hend hn1 hsz hvt
      go_wp2_with fail
      refine (C0.out _ ?_ ?_).mono ?_
      · exact HAR.out
      · have := HB1.out.size; omega
      rintro e w2 ⟨rfl, hb2⟩
      have hw2 := hb2.size
      have hT2 : TermAt w2 w.heap.size p1 A1 n1 c1 := HT.out.below hb2 hwr0
      have z0 := hT2.kind
      have z1 := hT2.num
      have z2 := hT2.name
      have z3 := hT2.args
      have HR2 := Lib.hid (HR.out.below hb2 hwr)
      have HB2 := Lib.hid (HB1.out.trans (hb2.mono (by omega)) : Below w.heap.size w w2)
      have HBR := Lib.hid hb2
      clear hb2 hT2 x0 x1 x2 x3
      go_wp2_with fail
      refine (C1.out _ ?_ ?_).mono ?_
      · exact HAR.out.below HBR.out (by have := HB1.out.size; omega)
      · have := HB1.out.size; omega
      rintro e w3 ⟨A2, c2, rfl, ha2, hb3⟩
      have hw3 := hb3.size
      have hr : ResAt w3 (w.heap.size + 1) := HR2.out.below hb3 (by omega)
      have r0 := hr.t.kind
      have r1 := hr.t.num
      have r2 := hr.t.name
      have r3 := hr.t.args
      have q0 := hr.s.s0
      have q1 := hr.s.s1
      have q2 := hr.s.s2
      have q3 := hr.s.s3
      have HA3 := Lib.hid ha2
      have HB3 := Lib.hid (HB2.out.trans (hb3.mono (by omega)) : Below w.heap.size w w3)
      have HBR3 := Lib.hid (HBR.out.trans (hb3.mono (by omega)) : Below wr.heap.size wr w3)
      have HR3 := Lib.hid hr
      clear ha2 hb3 hr
      go_wp2_with fail
      have st := stored w3 (w.heap.size + 1) p1 zp A2 none n1 c2 0 0 HR3.out.t HR3.out.s
      show bodyPost _ _ _ _ _ (set4 w3 (w.heap.size + 1) 0 p1 A2 n1 c2)
      generalize set4 w3 (w.heap.size + 1) 0 p1 A2 n1 c2 = w4 at st ⊢
      refine bodyPost_ret (tmp_result_term (q := 2) (u := 3) rfl _ _ (w.heap.size + 1) p1 A2 n1 c2 (.slice Ac k cc) rfl rfl st.term) rfl ?_
      rw [HEL.out]
      have hlen : k = Tm.len acc := by have := (HROW.out.args (by omega)).len; omega
      have harg := ((HROW.out.below HBR3.out).args (by omega)).keep (w' := w4) (fun b' hb' => st.block b' (by omega))
      refine ⟨Ac, cc, A2, c2, ?_, ?_, ?_, st.below _ _ HB3.out (by omega)⟩
      · show _ = Ending.returned (.tuple #[.slice Ac (Tm.len (Tm.app acc .nil)) cc, tv p1 A2 (Tm.len l1) c2])
        rw [Tm.app_nil, ← hlen, ← HN1.out]
      · show ArgsIn _ _ Ac (Tm.len (Tm.app acc .nil)) (Tm.app acc .nil)
        rw [Tm.app_nil, ← hlen]
        exact harg.mono fun b' hb' => ⟨by omega, by rw [st.size]; exact hb'.2⟩
      · show ArgsIn _ _ A2 (Tm.len l1) l1
        rw [← HN1.out]
        exact st.fresh (N := w2.heap.size) HA3.out (by omega) (by omega)
    · obtain ⟨hk, hnm, h2⟩ := Bl.isS_dot.1 HV.out.symm
      obtain ⟨pa, la, pb, lb, rfl⟩ := Tm.len_two h2
      obtain ⟨b, o, rfl, hbB, hrw⟩ := HAR.out.row (by rw [h2]; omega)
      have hbw : b < w.heap.size := Nat.lt_of_lt_of_le hbB hB
      have HT' : Hid (TermAt wr w.heap.size p1 (some ⟨b, o, none⟩) 2 c1) := HT
      have HAR' : Hid (ArgsB wr B (some ⟨b, o, none⟩) 2 (.node pa la (.node pb lb .nil))) := HAR
      replace x3 : wr.cell? ⟨w.heap.size, 3, none⟩ = some (.slice (some ⟨b, o, none⟩) 2 c1) := x3
      replace C0 : Hid (∀ (w1 : World), ArgsB w1 B (some ⟨b, o, none⟩) 2 (.node pa la (.node pb lb .nil)) → B ≤ w1.heap.size → Calls Try.prog 89 #[tv p1 (some ⟨b, o, none⟩) 2 c1] w1 fun e w' => e = .returned (.bool true) ∧ Below w1.heap.size w1 w') := C0
      obtain ⟨y0, y1, y2, ⟨Aa, ca, y3, ha1, ha2⟩, hrest⟩ := hrw
      obtain ⟨z0, z1, z2, ⟨Ab, cb, z3, hb1, hb2⟩, -⟩ := hrest
      have HI := Lib.hid (⟨rfl, ha1, ha2⟩ : ArgsB wr B Aa (Tm.len la) la)
      have HJ := Lib.hid (⟨rfl, hb1, hb2⟩ : ArgsB wr B Ab (Tm.len lb) lb)
      have hgood := HGD.out
      have hga : Tm.goodB pa la = true := by unfold Tm.goodB at hgood; simp only [Tm.allB_cons, Bool.and_eq_true] at hgood; exact hgood.2.1
      have hgb : Tm.goodB pb lb = true := by unfold Tm.goodB at hgood; simp only [Tm.allB_cons, Bool.and_eq_true] at hgood; exact hgood.2.2.1
      have HGB := Lib.hid hgb
      have HSZ := Lib.hid (show k + 1 + 1 + Tm.size lb ≤ 2000 by simp only [Tm.size] at hsz; omega)
      have hvb : Tm.validB pa la = true := by
        unfold Tm.validB
        rw [hga, Bool.and_true, decide_eq_true_eq]
        simp only [Tm.size] at hsz
        omega
      have hk9 : k ≤ 2000 := by omega
      have C1 := Lib.hid fun (w2 : World) (h2 : ArgsB w2 B Aa (Tm.len la) la) (h3 : B ≤ w2.heap.size) => rcopied_any pa la Aa ca B w2 hvb h2 h3
      unfold Makes at C1
      obtain ⟨na, hna⟩ : ∃ na, na = Tm.len la := ⟨_, rfl⟩
      rw [← hna] at C1 HI y3
      obtain ⟨nb, hnb2⟩ : ∃ nb, nb = Tm.len lb := ⟨_, rfl⟩
      rw [← hnb2] at HJ z3
      have HNA := Lib.hid hna
      have HNB := Lib.hid hnb2
      have HKK := Lib.hid hk
      have HNM := Lib.hid hnm
      have hne : ¬ w.heap.size = b := by omega
      have hne' : ¬ b = w.heap.size := by omega
      have hbwr : b < wr.heap.size := by omega
      clear hga hgb hgood hna hnb2 ha1 ha2 hb1 hb2 hk hnm h2 hsz hvb HT HAR
      go_wp2_with fail
      refine (C0.out _ HAR'.out ?_).mono ?_
      · have := HB1.out.size; omega
      rintro e w2 ⟨rfl, hb2⟩
      have hw2 := hb2.size
      have hT2 : TermAt w2 w.heap.size p1 (some ⟨b, o, none⟩) 2 c1 := HT'.out.below hb2 hwr0
      have g0 := hT2.kind
      have g1 := hT2.num
      have g2 := hT2.name
      have g3 := hT2.args
      have cc2 : ∀ (j : Nat) (v : Value), wr.cell? ⟨b, j, none⟩ = some v → w2.cell? ⟨b, j, none⟩ = some v := fun j v h => (hb2.cell (p := ⟨b, j, none⟩) hbwr).trans h
      have e0 := cc2 _ _ y0
      have e1 := cc2 _ _ y1
      have e2 := cc2 _ _ y2
      have e3 := cc2 _ _ y3
      have f0 := cc2 _ _ z0
      have f1 := cc2 _ _ z1
      have f2 := cc2 _ _ z2
      have f3 := cc2 _ _ z3
      have HT2 := Lib.hid hT2
      have HB2 := Lib.hid hb2
      clear hT2 hb2 cc2 x0 x1 x2 x3 y0 y1 y2 y3 z0 z1 z2 z3
      go_wp2_with fail
      refine (C1.out _ ?_ ?_).mono ?_
      · exact HI.out.below HB2.out (by omega)
      · have := HB1.out.size; omega
      rintro e w3 ⟨A2, c2, rfl, ha2, hb3⟩
      have HA2 := Lib.hid (ha2.mono (S' := fun b => wr.heap.size ≤ b ∧ b < w3.heap.size) (fun b hb => by have := hb.1; have := hb.2; omega))
      have hw3 := hb3.size
      have hbr3 : Below wr.heap.size wr w3 := HB2.out.trans (hb3.mono hw2)
      have HB3 := Lib.hid hbr3
      have HRA := Lib.hid ((HROW.out.below hbr3).below ((Below.refl w3.heap.size w3).alloc (Nat.le_refl _) (.cells #[.int .i64 pa.1, .int .i64 pa.2.1, .string pa.2.2, .slice A2 na c2] 24)))
      clear ha2 hb3 hbr3
      go_wp2_with (refine wpList_append_lies _ rfl (.tmp 11) (.tmp 17) 22 rfl (w.heap.size + 1 + 1) 24 i0 (tv zp none 0 0) 4 56 Try.underlying22 hi0 hz0 hz1 hz2 rfl (by decide) (.slice Ac k cc) k (tcells vs) rfl HRA.out.own ⟨w3.heap.size, 0, none⟩ 1 1 [.int .i64 pa.1, .int .i64 pa.2.1, .string pa.2.2, .slice A2 na c2] rfl rfl (news_four w3 pa A2 na c2 _) (one_four pa A2 na c2) (by decide) (by simp [maxLen]; omega) (by omega) (by simp; omega) _ rfl ?_)
      intro g cap w4 hown2 hgrow hat hlt2
      have hb6 : Below (w.heap.size + 1 + 1) wr w4 := ((HB3.out.mono (by omega)).alloc (by omega) _).grown hgrow (by simp; omega) (fun j e => (HRA.out.own.lt j e).1)
      have hpush := RowSt.push (N := wr.heap.size) HRA.out HNA.out (fun b' hb' => (HROW.out.own.lt b' hb').2) hwr ((HA2.out.keep (fun b' hb' => Below.heap_alloc w3 _ b' hb'.2)).mono (fun b' hb' => ⟨hb'.1, by rw [World.size_alloc]; exact Nat.lt_succ_of_lt hb'.2⟩)) hown2 hgrow (by rw [World.size_alloc]; exact hat)
      have HPU := Lib.hid hpush
      have hsa2 := HSA.out.same (hb6.block w.heap.size (by omega))
      have hta2 : TermAt w4 w.heap.size p1 (some ⟨b, o, none⟩) 2 c1 := HT'.out.same (hb6.block w.heap.size (by omega))
      have k0 := hta2.kind
      have k1 := hta2.num
      have k2 := hta2.name
      have k3 := hta2.args
      have cc4 : ∀ (j : Nat) (v : Value), w2.cell? ⟨b, j, none⟩ = some v → w4.cell? ⟨b, j, none⟩ = some v := fun j v h => by
        rw [cell_of_block (p := ⟨b, j, none⟩) (hb6.block b (by omega)), ← cell_of_block (p := ⟨b, j, none⟩) (HB2.out.block b hbwr)]
        exact h
      have u0 := cc4 _ _ f0
      have u1 := cc4 _ _ f1
      have u2 := cc4 _ _ f2
      have u3 := cc4 _ _ f3
      have t0 := hsa2.s0
      have t1 := hsa2.s1
      have t2 := hsa2.s2
      have t3 := hsa2.s3
      have HTA2 := Lib.hid hta2
      have HSA2 := Lib.hid hsa2
      have HB6 := Lib.hid hb6
      clear hown2 hgrow hat hb6 hpush hta2 hsa2 cc4 e0 e1 e2 e3 f0 f1 f2 f3 g0 g1 g2 g3
      go_wp2_with fail
      have st := stored w4 w.heap.size pb p1 Ab (some ⟨b, o, none⟩) nb cb 2 c1 HTA2.out HSA2.out
      have hsize2 := HPU.out.size
      refine ⟨⟨k + 1, vs ++ [tv pa A2 na c2], Tm.app acc (.node pa la .nil), some ⟨g, 0, none⟩, cap, pb, lb, Ab, cb, rfl, ?_, HPU.out.keep (Nat.le_of_eq st.size.symm) (fun b' _ hb' => st.block b' (by omega)), by rw [← HNB.out]; exact st.term, st.soft, (HR.out.same (HB6.out.block _ (by omega))).same (st.block _ (by omega)), ?_, HGB.out, HSZ.out, st.below _ _ (HB1.out.trans (HB6.out.mono (by omega))) (by omega)⟩, ?_⟩
      · rw [HEL.out, Tm.elemsOf_cons pa la pb lb HKK.out HNM.out, Tm.app_assoc]; rfl
      · rw [← HNB.out]
        exact (HJ.out.below HB6.out (by omega)).keep fun b' (hb' : b' < B) => st.block b' (by omega)
      · simp only []; omega
end Go.Proofs.Ytapcnehpechkpaa
