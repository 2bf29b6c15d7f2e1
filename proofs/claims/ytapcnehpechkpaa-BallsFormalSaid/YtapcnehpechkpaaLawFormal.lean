/-
  The statement BallsFormal, as its function.
-/
import Derived.Test.YtapcnehpechkpaaFacts6
import Derived.Test.YtapcnehpechkpaaRef6
namespace Go.Proofs.Ytapcnehpechkpaa
set_option linter.unusedVariables false
set_option linter.unusedSimpArgs false
set_option maxRecDepth 100000
open Go.RowKit
theorem rFormalE_any (p0 : Pay) (l0 : Fo) (A0 : Option Addr) (c0 B : Nat) (w : World) (hA0 : ArgsB w B A0 (Tm.len l0) l0) (hB : B ≤ w.heap.size) : Calls Try.prog 33 #[tv p0 A0 (Tm.len l0) c0] w (MkB 0 (Bl.formal p0 l0).1.1 (Bl.formal p0 l0).1.2 (Bl.formal p0 l0).2 w) := by
  rw [Bl.formal_eq]
  exact rFormal_any p0 l0 A0 c0 B w hA0 hB
section
variable {ops : Array Oper} {Q : Exit → Act → World → Prop} {E : Nat → Kd} {D : Nat → Nat} {base : Nat → Option Kd} {N : Nat}
theorem step_rFormalE {i : Nat} {x0 : Operand} {p0 : Pay} {l0 : Fo} (hop : (ops[i]?).map (·.op) = some (.call { callee := .value (.func 33), args := #[x0], argTypes := #[24] })) (h0 : Opd ops E D base N i x0 (.term p0 l0)) (hE : E i = .sat (nT2 0 none ((Bl.formal p0 l0).1).1 ((Bl.formal p0 l0).1).2 ((Bl.formal p0 l0).2))) : Step Try.prog ops Q E D base N i :=
  step_mkB0 hop (fun _ _ => by kernel_rfl) (fun a w h => by
    obtain ⟨A0, c0, e0, ha0⟩ := h0 a w h
    rw [show (#[x0] : Array Operand).map a.eval = #[tv p0 A0 (Tm.len l0) c0] by rw [← e0]; simp]
    exact rFormalE_any p0 l0 A0 c0 w.heap.size w ha0 (Nat.le_refl _)) hE
end
noncomputable def lFormal0Ops : Array Oper := ((Try.f4.body).bind (findReg 0)).getD #[]
noncomputable def lFormal1Ops : Array Oper := ((Try.f4.body).bind (findReg 1)).getD #[]
noncomputable def lFormal2Ops : Array Oper := ((Try.f4.body).bind (findReg 2)).getD #[]
noncomputable def lFormal3Ops : Array Oper := ((Try.f4.body).bind (findReg 3)).getD #[]
theorem lFormal_body : Try.f4.body = some (.seq (.region 0 lFormal0Ops false) (.seq (.region 1 lFormal1Ops false) (.seq (.region 2 lFormal2Ops false) (.seq (.region 3 lFormal3Ops false) .ret)))) := by kernel_rfl
theorem lFormal0a_region {Q : Exit → Act → World → Prop} (p0 : Pay) (l0 : Fo)  {w0 : World} {a : Act} {w : World} (h : Hold 28 [(0, .term p0 l0), (990, .sat (gP 0 none))] w0 a w)
    (hQ : ∀ a' w', Hold 28 [(990, .sat (gP 0 none)), (1, .ptrT p0 l0), (2, .val (.bool false))] w0 a' w' → Q .normal a' w') : (Code.region 0 lFormal0Ops false).wp Try.prog Q a w := by
  refine region_seq (w0 := w) 2 (by kernel_rfl) ?_
  rw [show List.range 2 = [0, 1] from rfl]
  refine env_one (i := 0) (d := 1) (k := .ptrT p0 l0) (step_box (by kernel_rfl) (Opd.of_base 0 rfl) rfl) (by kernel_rfl) (by decide) h ?_
  clear h
  intro a w h
  refine env_one (i := 1) (d := 2) (k := .val (.bool false)) (step_assign (by kernel_rfl) (Opd.const _) rfl) (by kernel_rfl) (by decide) h ?_
  clear h
  intro a w h
  exact hQ a w (h.keep [990, 1, 2])
theorem lFormal1a_region {Q : Exit → Act → World → Prop} (p0 : Pay) (l0 : Fo)  {w0 : World} {a : Act} {w : World} (h : Hold 28 [(990, .sat (gP 0 none)), (1, .ptrT p0 l0), (2, .val (.bool false))] w0 a w)
    (hQ : ∀ a' w', Hold 28 [(990, .sat (gP 0 none)), (1, .ptrT p0 l0), (2, .val (.bool false)), (3, .ptrT (((Bl.formal p0 l0).1).1) (((Bl.formal p0 l0).1).2)), (4, .val (.bool ((Bl.formal p0 l0).2)))] w0 a' w' → Q .normal a' w') : (Code.region 1 lFormal1Ops false).wp Try.prog Q a w := by
  refine region_seq (w0 := w) 8 (by kernel_rfl) ?_
  rw [show List.range 8 = [0, 1, 2, 3, 4, 5, 6, 7] from rfl]
  refine env_one (i := 0) (d := 8) (k := .term p0 l0) (step_load_term (by kernel_rfl) (Opd.of_base 1 rfl) rfl) (by kernel_rfl) (by decide) h ?_
  clear h
  intro a w h
  refine env_one (i := 1) (d := 9) (k := .sat (nT2 0 none (((Bl.formal p0 l0).1).1) (((Bl.formal p0 l0).1).2) ((Bl.formal p0 l0).2))) (step_bFormal (g := 990) (by kernel_rfl) (Opd.of_base 8 rfl) (Opd.of_base 990 rfl) rfl) (by kernel_rfl) (by decide) h ?_
  clear h
  intro a w h
  refine env_one (i := 2) (d := 7) (k := .sat (nT2 0 none (((Bl.formal p0 l0).1).1) (((Bl.formal p0 l0).1).2) ((Bl.formal p0 l0).2))) (step_move (by kernel_rfl) (Opd.of_base 9 rfl) rfl) (by kernel_rfl) (by decide) h ?_
  clear h
  intro a w h
  refine env_one (i := 3) (d := 10) (k := .sat (nT 0 none (((Bl.formal p0 l0).1).1) (((Bl.formal p0 l0).1).2))) (step_nT2_0 (by kernel_rfl) (Opd.of_base 7 rfl) rfl) (by kernel_rfl) (by decide) h ?_
  clear h
  intro a w h
  refine env_one (i := 4) (d := 11) (k := .val (.bool ((Bl.formal p0 l0).2))) (step_nT2_1 (by kernel_rfl) (Opd.of_base 7 rfl) rfl) (by kernel_rfl) (by decide) h ?_
  clear h
  intro a w h
  have h := h.cast 10 rfl
  refine env_box (i := 5) (d := 3) (by kernel_rfl) (by decide) (by kernel_rfl) (by decide) (s := 10) rfl h ?_
  clear h
  intro a w h
  refine env_one (i := 7) (d := 4) (k := .val (.bool ((Bl.formal p0 l0).2))) (step_assign (by kernel_rfl) (Opd.of_base 11 rfl) rfl) (by kernel_rfl) (by decide) h ?_
  clear h
  intro a w h
  exact hQ a w (h.keep [990, 1, 2, 3, 4])
theorem lFormal2a_region {Q : Exit → Act → World → Prop} (p0 : Pay) (l0 : Fo)  {w0 : World} {a : Act} {w : World} (h : Hold 28 [(990, .sat (gP 0 none)), (1, .ptrT p0 l0), (2, .val (.bool false)), (3, .ptrT (((Bl.formal p0 l0).1).1) (((Bl.formal p0 l0).1).2)), (4, .val (.bool ((Bl.formal p0 l0).2)))] w0 a w)
    (hQ : ∀ a' w', Hold 28 [(990, .sat (gP 0 none)), (2, .val (.bool false)), (3, .ptrT (((Bl.formal p0 l0).1).1) (((Bl.formal p0 l0).1).2)), (4, .val (.bool ((Bl.formal p0 l0).2))), (5, .ptrT (((Bl.formal p0 l0).1).1) (((Bl.formal p0 l0).1).2)), (6, .val (.bool ((Bl.formal p0 l0).2)))] w0 a' w' → Q .normal a' w') : (Code.region 2 lFormal2Ops false).wp Try.prog Q a w := by
  refine region_seq (w0 := w) 8 (by kernel_rfl) ?_
  rw [show List.range 8 = [0, 1, 2, 3, 4, 5, 6, 7] from rfl]
  refine env_one (i := 0) (d := 13) (k := .term p0 l0) (step_load_term (by kernel_rfl) (Opd.of_base 1 rfl) rfl) (by kernel_rfl) (by decide) h ?_
  clear h
  intro a w h
  refine env_one (i := 1) (d := 14) (k := .sat (nT2 0 none (((Bl.formal p0 l0).1).1) (((Bl.formal p0 l0).1).2) ((Bl.formal p0 l0).2))) (step_rFormalE (by kernel_rfl) (Opd.of_base 13 rfl) rfl) (by kernel_rfl) (by decide) h ?_
  clear h
  intro a w h
  refine env_one (i := 2) (d := 12) (k := .sat (nT2 0 none (((Bl.formal p0 l0).1).1) (((Bl.formal p0 l0).1).2) ((Bl.formal p0 l0).2))) (step_move (by kernel_rfl) (Opd.of_base 14 rfl) rfl) (by kernel_rfl) (by decide) h ?_
  clear h
  intro a w h
  refine env_one (i := 3) (d := 15) (k := .sat (nT 0 none (((Bl.formal p0 l0).1).1) (((Bl.formal p0 l0).1).2))) (step_nT2_0 (by kernel_rfl) (Opd.of_base 12 rfl) rfl) (by kernel_rfl) (by decide) h ?_
  clear h
  intro a w h
  refine env_one (i := 4) (d := 16) (k := .val (.bool ((Bl.formal p0 l0).2))) (step_nT2_1 (by kernel_rfl) (Opd.of_base 12 rfl) rfl) (by kernel_rfl) (by decide) h ?_
  clear h
  intro a w h
  have h := h.cast 15 rfl
  refine env_box (i := 5) (d := 5) (by kernel_rfl) (by decide) (by kernel_rfl) (by decide) (s := 15) rfl h ?_
  clear h
  intro a w h
  refine env_one (i := 7) (d := 6) (k := .val (.bool ((Bl.formal p0 l0).2))) (step_assign (by kernel_rfl) (Opd.of_base 16 rfl) rfl) (by kernel_rfl) (by decide) h ?_
  clear h
  intro a w h
  exact hQ a w (h.keep [990, 2, 3, 4, 5, 6])
theorem lFormal3a_region {Q : Exit → Act → World → Prop} (p0 : Pay) (l0 : Fo)  {w0 : World} {a : Act} {w : World} (h : Hold 28 [(990, .sat (gP 0 none)), (2, .val (.bool false)), (3, .ptrT (((Bl.formal p0 l0).1).1) (((Bl.formal p0 l0).1).2)), (4, .val (.bool ((Bl.formal p0 l0).2))), (5, .ptrT (((Bl.formal p0 l0).1).1) (((Bl.formal p0 l0).1).2)), (6, .val (.bool ((Bl.formal p0 l0).2)))] w0 a w)
    (hQ : ∀ a' w', Hold 28 [(990, .sat (gP 0 none)), (2, .val (.bool true))] w0 a' w' → Q .normal a' w') : (Code.region 3 lFormal3Ops false).wp Try.prog Q a w := by
  refine region_seq (w0 := w) 12 (by kernel_rfl) ?_
  rw [show List.range 12 = [0, 1, 2, 3, 4, 5, 6, 7, 8, 9, 10, 11] from rfl]
  refine env_one (i := 0) (d := 17) (k := .val (.bool ((Bl.formal p0 l0).2))) (step_move (by kernel_rfl) (Opd.of_base 4 rfl) rfl) (by kernel_rfl) (by decide) h ?_
  clear h
  intro a w h
  refine env_one (i := 1) (d := 18) (k := .val (.bool ((Bl.formal p0 l0).2))) (step_move (by kernel_rfl) (Opd.of_base 6 rfl) rfl) (by kernel_rfl) (by decide) h ?_
  clear h
  intro a w h
  refine env_one (i := 2) (d := 19) (k := .val (.bool true)) (step_eq_bool (by kernel_rfl) (Opd.of_base 17 rfl) (Opd.of_base 18 rfl) rfl) (by kernel_rfl) (by decide) h ?_
  clear h
  intro a w h
  refine env_one (i := 3) (d := 20) (k := .val (.bool true)) (step_move (by kernel_rfl) (Opd.of_base 19 rfl) rfl) (by kernel_rfl) (by decide) h ?_
  clear h
  intro a w h
  refine env_guard (i := 4) (d := 21) (g := 3) (dg := 20) (b := true) (k := .term (((Bl.formal p0 l0).1).1) (((Bl.formal p0 l0).1).2)) (step_load_term (by kernel_rfl) (Opd.of_base 3 rfl) rfl) (by kernel_rfl) (by decide) (by kernel_rfl) (by decide) rfl h ?_
  clear h
  intro a w h
  refine env_guard (i := 5) (d := 22) (g := 3) (dg := 20) (b := true) (k := .term (((Bl.formal p0 l0).1).1) (((Bl.formal p0 l0).1).2)) (step_load_term (by kernel_rfl) (Opd.of_base 5 rfl) rfl) (by kernel_rfl) (by decide) (by kernel_rfl) (by decide) rfl h ?_
  clear h
  intro a w h
  refine env_guard (i := 6) (d := 23) (g := 3) (dg := 20) (b := true) (k := .val (.bool true)) (step_lsame (by kernel_rfl) (Opd.of_base 21 rfl) (Opd.of_base 22 rfl) (by rw [same_self (Bl.formal_valid p0 l0)]; rfl)) (by kernel_rfl) (by decide) (by kernel_rfl) (by decide) rfl h ?_
  clear h
  intro a w h
  refine env_one (i := 7) (d := 24) (k := .val (.bool true)) (step_pick_yes (y := .const (.bool false)) (by kernel_rfl) (Opd.of_base 20 rfl) (Opd.of_base 23 rfl) rfl) (by kernel_rfl) (by decide) h ?_
  clear h
  intro a w h
  refine env_one (i := 8) (d := 25) (k := .val (.bool true)) (step_move (by kernel_rfl) (Opd.of_base 24 rfl) rfl) (by kernel_rfl) (by decide) h ?_
  clear h
  intro a w h
  refine env_guard (i := 9) (d := 26) (g := 8) (dg := 25) (b := true) (k := .val (.bool true)) (step_awake (by kernel_rfl)  rfl) (by kernel_rfl) (by decide) (by kernel_rfl) (by decide) rfl h ?_
  clear h
  intro a w h
  refine env_one (i := 10) (d := 27) (k := .val (.bool true)) (step_pick_yes (y := .const (.bool false)) (by kernel_rfl) (Opd.of_base 25 rfl) (Opd.of_base 26 rfl) rfl) (by kernel_rfl) (by decide) h ?_
  clear h
  intro a w h
  refine env_one (i := 11) (d := 2) (k := .val (.bool true)) (step_assign (by kernel_rfl) (Opd.of_base 27 rfl) rfl) (by kernel_rfl) (by decide) h ?_
  clear h
  intro a w h
  exact hQ a w (h.keep [990, 2])
set_option maxHeartbeats 1000000 in
theorem lFormal_any (p0 : Pay) (l0 : Fo) (A0 : Option Addr) (c0 : Nat) (B : Nat) (w : World) (hA0 : ArgsB w B A0 (Tm.len l0) l0) (hB : B ≤ w.heap.size)  : Calls Try.prog 4 #[tv p0 A0 (Tm.len l0) c0] w (fun e w' => e = .returned (.bool true) ∧ Below w.heap.size w w') := by
  refine calls_of_wp Try.func4 lFormal_body ?_
  obtain ⟨v0, hv0⟩ : ∃ v : Value, v = tv p0 A0 (Tm.len l0) c0 := ⟨_, rfl⟩
  rw [← hv0]
  have hk0 : (Kd.term p0 l0).R v0 w := by rw [hv0]; exact ⟨A0, c0, rfl, hA0.up hB⟩
  have hsN : (#[v0] ++ Array.replicate (Try.f4.ntmps - #[v0].size) undef : Array Value).size = 28 := by kernel_rfl
  have gs0 : (#[v0] ++ Array.replicate (Try.f4.ntmps - #[v0].size) undef : Array Value).getD 0 undef = v0 := by kernel_rfl
  generalize (#[v0] ++ Array.replicate (Try.f4.ntmps - #[v0].size) undef : Array Value) = tm at hsN gs0 ⊢
  obtain ⟨a, ha0⟩ : ∃ a : Act, a = ⟨tm, []⟩ := ⟨_, rfl⟩
  have h : Hold 28 [(0, .term p0 l0), (990, .sat (gP 0 none))] w ⟨tm, []⟩ w := ⟨hsN, rfl, Below.refl _ _, (slots_cons 0 (by rw [gs0]; exact hk0) (slots_cons 990 (k0 := .sat (gP 0 none)) ⟨Nat.zero_le _, fun r e => by cases e⟩ slots_nil))⟩
  refine wp_seq ?_
  refine lFormal0a_region p0 l0  h ?_
  intro a w1 h
  show Code.wp _ _ _ a w1
  refine wp_seq ?_
  refine lFormal1a_region p0 l0  h ?_
  intro a w1 h
  show Code.wp _ _ _ a w1
  refine wp_seq ?_
  refine lFormal2a_region p0 l0  h ?_
  intro a w1 h
  show Code.wp _ _ _ a w1
  refine wp_seq ?_
  refine lFormal3a_region p0 l0  h ?_
  intro a w1 h
  show Code.wp _ _ _ a w1
  refine wp_ret ?_
  (try simp only [then_ret, block_ret])
  exact law_out rfl (h.get 2 rfl) h.defers ⟨rfl, h.world⟩
end Go.Proofs.Ytapcnehpechkpaa
