/-
  Package balls: Formal, whose result's blocks can all be written.
-/
import Derived.Test.YtapcnehpechkpaaChk
import Derived.Test.YtapcnehpechkpaaMakeS
namespace Go.Proofs.Ytapcnehpechkpaa
set_option linter.unusedVariables false
set_option linter.unusedSimpArgs false
set_option maxRecDepth 100000
open Go.RowKit
/-- A term in blocks that can be written, and a truth value. -/
def MkBS (p : Pay) (l : Fo) (b : Bool) (w : World) (e : Ending) (w' : World) : Prop :=
  ∃ A c, e = .returned (.tuple #[tv p A (Tm.len l) c, .bool b]) ∧ ArgsIn (Nw w.heap.size w') w' A (Tm.len l) l ∧ Below w.heap.size w w'
theorem law_cbS {fn : Func} {q u : Tmp} {n r : Nat} {p : Pay} {l : Fo} {vu : Value} (hres : fn.results = #[.cell q 24, .tmp u]) {R : Ending → World → Prop} {a : Act} {w : World} (hzu : (Kd.val vu).R (a.tmps.getD u undef) w) (hq : (Kd.sat (rS n r p l)).R (a.tmps.getD q undef) w) (hd : a.defers = []) (hR : ∀ A c, ArgsIn (NsS n (some r) w) w A (Tm.len l) l → R (.returned (.tuple #[tv p A (Tm.len l) c, vu])) w) : bodyPost Try.prog fn R .ret a w := by
  obtain ⟨e, _, A, c, ht, ha⟩ := hq
  refine bodyPost_ret (v := .tuple #[tv p A (Tm.len l) c, vu]) ?_ hd (hR A c ha)
  have hp' : a.tmps[q]?.getD undef = .pointer (some ⟨r, 0, none⟩) := by simpa using e
  have hu0 : a.tmps.getD u undef = vu := hzu
  have hu' : a.tmps[u]?.getD undef = vu := by simpa using hu0
  simp [results, hres, hp', hu', asAddr, load_cellT w r p A (Tm.len l) c ht]
section
variable {ops : Array Oper} {Q : Exit → Act → World → Prop} {E : Nat → Kd} {D : Nat → Nat} {base : Nat → Option Kd} {N : Nat}
theorem step_cloneS {i n g : Nat} {G : Option Nat} {x0 : Operand} {p0 : Pay} {l0 : Fo} (hop : (ops[i]?).map (·.op) = some (.call { callee := .value (.func 72), args := #[x0], argTypes := #[24] })) (h0 : Opd ops E D base N i x0 (.term p0 l0)) (hg : Opd ops E D base N i (.tmp g) (.sat (gP n G))) (hE : E i = .sat (nS n G (Tm.cloneOf p0 l0).1 (Tm.cloneOf p0 l0).2)) : Step Try.prog ops Q E D base N i :=
  step_call hop (fun _ _ => by kernel_rfl) fun a w h => by
    obtain ⟨A0, c0, e0, ha0⟩ := h0 a w h
    rw [show (#[x0] : Array Operand).map a.eval = #[tv p0 A0 (Tm.len l0) c0] by rw [← e0]; simp]
    exact (cloneSm_any p0 l0 A0 c0 w.heap.size w ha0 (Nat.le_refl _)).mono fun e w' ⟨A, c, he, ha, hb⟩ => ⟨_, he, by rw [hE]; exact ⟨A, c, rfl, ha.mono fun b hb' => ⟨ns_new (hg a w h) hb'.1 hb'.2.1, hb'.2.2⟩⟩, hb⟩
end
noncomputable def sFormal0Ops : Array Oper := ((Try.f32.body).bind (findReg 0)).getD #[]
noncomputable def sFormal1Ops : Array Oper := ((Try.f32.body).bind (findReg 1)).getD #[]
noncomputable def sFormal2Ops : Array Oper := ((Try.f32.body).bind (findReg 2)).getD #[]
noncomputable def sFormal3Ops : Array Oper := ((Try.f32.body).bind (findReg 3)).getD #[]
theorem sFormal_body : Try.f32.body = some (.seq (.region 0 sFormal0Ops false) (.seq (.seq (.region 1 sFormal1Ops false) (.cond (.tmp 11) (.seq (.region 2 sFormal2Ops false) .ret) .skip)) (.seq (.region 3 sFormal3Ops false) .ret))) := by kernel_rfl
theorem sFormal0a_region {Q : Exit → Act → World → Prop} (p0 : Pay) (l0 : Fo) (nb : Nat)  {w0 : World} {a : Act} {w : World} (hn : nb ≤ w0.heap.size) (h : Hold 18 [(0, .term p0 l0)] w0 a w)
    (hQ : ∀ r a' w', w0.heap.size ≤ r → Hold 18 [(1, .sat (nP 0 (some r) p0 l0)), (2, .sat (rC nb r zp .nil)), (990, .sat (gP nb (some r))), (3, .val (.bool false))] w0 a' w' → Q .normal a' w') : (Code.region 0 sFormal0Ops false).wp Try.prog Q a w := by
  refine region_seq (w0 := w) 3 (by kernel_rfl) ?_
  rw [show List.range 3 = [0, 1, 2] from rfl]
  refine env_one (i := 0) (d := 1) (k := .ptrT p0 l0) (step_box (by kernel_rfl) (Opd.of_base 0 rfl) rfl) (by kernel_rfl) (by decide) h ?_
  clear h
  intro a w h
  refine env_res (i := 1) (d := 2) (n := nb) (fun r => [(0, .sat (nT 0 (some r) p0 l0)), (1, .sat (nP 0 (some r) p0 l0))]) (by kernel_rfl) (by decide) (by decide) hn (fun r => (goes_cons 0 rfl (turns_term _ _ _) (goes_cons 1 rfl (turns_ptr _ _ _) (goes_nil _ _)))) h ?_
  clear h
  intro r a w hr h
  refine env_one (i := 2) (d := 3) (k := .val (.bool false)) (step_assign (by kernel_rfl) (Opd.const _) rfl) (by kernel_rfl) (by decide) h ?_
  clear h
  intro a w h
  exact hQ r a w hr (h.keep [1, 2, 990, 3])
theorem sFormal1a_region {Q : Exit → Act → World → Prop} (p0 : Pay) (l0 : Fo) (nb r : Nat) (hv : Tm.validB p0 l0 = false) {w0 : World} {a : Act} {w : World} (hr : w0.heap.size ≤ r) (h : Hold 18 [(1, .sat (nP 0 (some r) p0 l0)), (2, .sat (rC nb r zp .nil)), (990, .sat (gP nb (some r))), (3, .val (.bool false))] w0 a w)
    (hQ : ∀ a' w', Hold 18 [(1, .sat (nP 0 (some r) p0 l0)), (2, .sat (rC nb r zp .nil)), (990, .sat (gP nb (some r))), (3, .val (.bool false)), (11, .val (.bool true))] w0 a' w' → Q .normal a' w') : (Code.region 1 sFormal1Ops false).wp Try.prog Q a w := by
  refine region_seq (w0 := w) 8 (by kernel_rfl) ?_
  rw [show List.range 8 = [0, 1, 2, 3, 4, 5, 6, 7] from rfl]
  refine env_one (i := 0) (d := 4) (k := .sat (nT 0 (some r) p0 l0)) (step_nload (by kernel_rfl) (Opd.of_base 1 rfl) rfl) (by kernel_rfl) (by decide) h ?_
  clear h
  intro a w h
  refine env_one (i := 1) (d := 5) (k := .val (.bool false)) (step_valid6 (by kernel_rfl) (Opd.ofT (Opd.of_base 4 rfl)) (by rw [hv]; rfl)) (by kernel_rfl) (by decide) h ?_
  clear h
  intro a w h
  refine env_one (i := 2) (d := 6) (k := .val (.bool true)) (step_not (by kernel_rfl) (Opd.of_base 5 rfl) rfl) (by kernel_rfl) (by decide) h ?_
  clear h
  intro a w h
  refine env_one (i := 3) (d := 7) (k := .val (.bool true)) (step_move (by kernel_rfl) (Opd.of_base 6 rfl) rfl) (by kernel_rfl) (by decide) h ?_
  clear h
  intro a w h
  refine env_skip (i := 4) (d := 8) (g := 3) (dg := 7) (b := false) (by kernel_rfl) (by decide) (by kernel_rfl) rfl rfl h ?_
  clear h
  intro a w h
  refine env_skip (i := 5) (d := 9) (g := 3) (dg := 7) (b := false) (by kernel_rfl) (by decide) (by kernel_rfl) rfl rfl h ?_
  clear h
  intro a w h
  refine env_skip (i := 6) (d := 10) (g := 3) (dg := 7) (b := false) (by kernel_rfl) (by decide) (by kernel_rfl) rfl rfl h ?_
  clear h
  intro a w h
  refine env_one (i := 7) (d := 11) (k := .val (.bool true)) (step_pick_yes (y := .tmp 10) (by kernel_rfl) (Opd.of_base 7 rfl) (Opd.const _) rfl) (by kernel_rfl) (by decide) h ?_
  clear h
  intro a w h
  exact hQ a w (h.keep [1, 2, 990, 3, 11])
theorem sFormal2a_region {Q : Exit → Act → World → Prop} (p0 : Pay) (l0 : Fo) (nb r : Nat)  {w0 : World} {a : Act} {w : World} (hr : w0.heap.size ≤ r) (h : Hold 18 [(1, .sat (nP 0 (some r) p0 l0)), (2, .sat (rC nb r zp .nil)), (990, .sat (gP nb (some r))), (3, .val (.bool false))] w0 a w)
    (hQ : ∀ a' w', Hold 18 [(1, .sat (nP 0 (some r) p0 l0)), (990, .sat (gP nb (some r))), (3, .val (.bool false)), (2, .sat (rC nb r zp .nil))] w0 a' w' → Q .normal a' w') : (Code.region 2 sFormal2Ops false).wp Try.prog Q a w := by
  refine region_seq (w0 := w) 3 (by kernel_rfl) ?_
  rw [show List.range 3 = [0, 1, 2] from rfl]
  refine env_one (i := 0) (d := 12) (k := .sat (nT nb (some r) zp .nil)) (step_nzero (by kernel_rfl) rfl) (by kernel_rfl) (by decide) h ?_
  clear h
  intro a w h
  refine env_store (i := 1) (x := 2) (y := 12) (r := r) [(1, .sat (nP 0 (some r) p0 l0)), (990, .sat (gP nb (some r))), (3, .val (.bool false)), (12, .sat (nT nb (some r) zp .nil))] (by kernel_rfl) rfl rfl hr (stays_cons 1 rfl (away_nP _ _ _ _) (stays_cons 990 rfl (away_gP _ _ _) (stays_cons 3 rfl (away_val _ _) (stays_cons 12 rfl (away_nT _ _ _ _) (stays_nil _ _))))) h ?_
  clear h
  intro a w h
  refine env_one (i := 2) (d := 3) (k := .val (.bool false)) (step_assign (by kernel_rfl) (Opd.const _) rfl) (by kernel_rfl) (by decide) h ?_
  clear h
  intro a w h
  exact hQ a w (h.keep [1, 990, 3, 2])
theorem sFormal1b_region {Q : Exit → Act → World → Prop} (p0 : Pay) (l0 : Fo) (nb r : Nat) (hv : Tm.validB p0 l0 = true) (hs : Bl.isS p0 l0 ⟨#[101, 114, 114, 111, 114]⟩ 2 = false) {w0 : World} {a : Act} {w : World} (hr : w0.heap.size ≤ r) (h : Hold 18 [(1, .sat (nP 0 (some r) p0 l0)), (2, .sat (rC nb r zp .nil)), (990, .sat (gP nb (some r))), (3, .val (.bool false))] w0 a w)
    (hQ : ∀ a' w', Hold 18 [(1, .sat (nP 0 (some r) p0 l0)), (2, .sat (rC nb r zp .nil)), (990, .sat (gP nb (some r))), (3, .val (.bool false)), (11, .val (.bool true))] w0 a' w' → Q .normal a' w') : (Code.region 1 sFormal1Ops false).wp Try.prog Q a w := by
  refine region_seq (w0 := w) 8 (by kernel_rfl) ?_
  rw [show List.range 8 = [0, 1, 2, 3, 4, 5, 6, 7] from rfl]
  refine env_one (i := 0) (d := 4) (k := .sat (nT 0 (some r) p0 l0)) (step_nload (by kernel_rfl) (Opd.of_base 1 rfl) rfl) (by kernel_rfl) (by decide) h ?_
  clear h
  intro a w h
  refine env_one (i := 1) (d := 5) (k := .val (.bool true)) (step_valid6 (by kernel_rfl) (Opd.ofT (Opd.of_base 4 rfl)) (by rw [hv]; rfl)) (by kernel_rfl) (by decide) h ?_
  clear h
  intro a w h
  refine env_one (i := 2) (d := 6) (k := .val (.bool false)) (step_not (by kernel_rfl) (Opd.of_base 5 rfl) rfl) (by kernel_rfl) (by decide) h ?_
  clear h
  intro a w h
  refine env_one (i := 3) (d := 7) (k := .val (.bool false)) (step_move (by kernel_rfl) (Opd.of_base 6 rfl) rfl) (by kernel_rfl) (by decide) h ?_
  clear h
  intro a w h
  refine env_guard (i := 4) (d := 8) (g := 3) (dg := 7) (b := false) (k := .sat (nT 0 (some r) p0 l0)) (step_nload (by kernel_rfl) (Opd.of_base 1 rfl) rfl) (by kernel_rfl) (by decide) (by kernel_rfl) (by decide) rfl h ?_
  clear h
  intro a w h
  refine env_guard (i := 5) (d := 9) (g := 3) (dg := 7) (b := false) (k := .val (.bool false)) (step_bIs (by kernel_rfl) (Opd.ofT (Opd.of_base 8 rfl)) (Opd.const _) (Opd.const _) (by rw [hs]; rfl)) (by kernel_rfl) (by decide) (by kernel_rfl) (by decide) rfl h ?_
  clear h
  intro a w h
  refine env_guard (i := 6) (d := 10) (g := 3) (dg := 7) (b := false) (k := .val (.bool true)) (step_not (by kernel_rfl) (Opd.of_base 9 rfl) rfl) (by kernel_rfl) (by decide) (by kernel_rfl) (by decide) rfl h ?_
  clear h
  intro a w h
  refine env_one (i := 7) (d := 11) (k := .val (.bool true)) (step_pick_no (x := .const (.bool true)) (by kernel_rfl) (Opd.of_base 7 rfl) (Opd.of_base 10 rfl) rfl) (by kernel_rfl) (by decide) h ?_
  clear h
  intro a w h
  exact hQ a w (h.keep [1, 2, 990, 3, 11])
theorem sFormal1c_region {Q : Exit → Act → World → Prop} (p0 : Pay) (l0 : Fo) (nb r : Nat) (hv : Tm.validB p0 l0 = true) (hs : Bl.isS p0 l0 ⟨#[101, 114, 114, 111, 114]⟩ 2 = true) {w0 : World} {a : Act} {w : World} (hr : w0.heap.size ≤ r) (h : Hold 18 [(1, .sat (nP 0 (some r) p0 l0)), (2, .sat (rC nb r zp .nil)), (990, .sat (gP nb (some r))), (3, .val (.bool false))] w0 a w)
    (hQ : ∀ a' w', Hold 18 [(1, .sat (nP 0 (some r) p0 l0)), (2, .sat (rC nb r zp .nil)), (990, .sat (gP nb (some r))), (3, .val (.bool false)), (11, .val (.bool false))] w0 a' w' → Q .normal a' w') : (Code.region 1 sFormal1Ops false).wp Try.prog Q a w := by
  refine region_seq (w0 := w) 8 (by kernel_rfl) ?_
  rw [show List.range 8 = [0, 1, 2, 3, 4, 5, 6, 7] from rfl]
  refine env_one (i := 0) (d := 4) (k := .sat (nT 0 (some r) p0 l0)) (step_nload (by kernel_rfl) (Opd.of_base 1 rfl) rfl) (by kernel_rfl) (by decide) h ?_
  clear h
  intro a w h
  refine env_one (i := 1) (d := 5) (k := .val (.bool true)) (step_valid6 (by kernel_rfl) (Opd.ofT (Opd.of_base 4 rfl)) (by rw [hv]; rfl)) (by kernel_rfl) (by decide) h ?_
  clear h
  intro a w h
  refine env_one (i := 2) (d := 6) (k := .val (.bool false)) (step_not (by kernel_rfl) (Opd.of_base 5 rfl) rfl) (by kernel_rfl) (by decide) h ?_
  clear h
  intro a w h
  refine env_one (i := 3) (d := 7) (k := .val (.bool false)) (step_move (by kernel_rfl) (Opd.of_base 6 rfl) rfl) (by kernel_rfl) (by decide) h ?_
  clear h
  intro a w h
  refine env_guard (i := 4) (d := 8) (g := 3) (dg := 7) (b := false) (k := .sat (nT 0 (some r) p0 l0)) (step_nload (by kernel_rfl) (Opd.of_base 1 rfl) rfl) (by kernel_rfl) (by decide) (by kernel_rfl) (by decide) rfl h ?_
  clear h
  intro a w h
  refine env_guard (i := 5) (d := 9) (g := 3) (dg := 7) (b := false) (k := .val (.bool true)) (step_bIs (by kernel_rfl) (Opd.ofT (Opd.of_base 8 rfl)) (Opd.const _) (Opd.const _) (by rw [hs]; rfl)) (by kernel_rfl) (by decide) (by kernel_rfl) (by decide) rfl h ?_
  clear h
  intro a w h
  refine env_guard (i := 6) (d := 10) (g := 3) (dg := 7) (b := false) (k := .val (.bool false)) (step_not (by kernel_rfl) (Opd.of_base 9 rfl) rfl) (by kernel_rfl) (by decide) (by kernel_rfl) (by decide) rfl h ?_
  clear h
  intro a w h
  refine env_one (i := 7) (d := 11) (k := .val (.bool false)) (step_pick_no (x := .const (.bool true)) (by kernel_rfl) (Opd.of_base 7 rfl) (Opd.of_base 10 rfl) rfl) (by kernel_rfl) (by decide) h ?_
  clear h
  intro a w h
  exact hQ a w (h.keep [1, 2, 990, 3, 11])
theorem sFormal3a_region {Q : Exit → Act → World → Prop} (p0 : Pay) (l0 : Fo) (nb r : Nat) (hl2 : Tm.len l0 = 2) {w0 : World} {a : Act} {w : World} (hr : w0.heap.size ≤ r) (h : Hold 18 [(1, .sat (nP 0 (some r) p0 l0)), (2, .sat (rC nb r zp .nil)), (990, .sat (gP nb (some r))), (3, .val (.bool false))] w0 a w)
    (hQ : ∀ a' w', Hold 18 [(990, .sat (gP nb (some r))), (3, .val (.bool true)), (2, .sat (rS nb r ((Tm.cloneOf ((Bl.arg0 l0).1) ((Bl.arg0 l0).2)).1) ((Tm.cloneOf ((Bl.arg0 l0).1) ((Bl.arg0 l0).2)).2)))] w0 a' w' → Q .normal a' w') : (Code.region 3 sFormal3Ops false).wp Try.prog Q a w := by
  refine region_seq (w0 := w) 7 (by kernel_rfl) ?_
  rw [show List.range 7 = [0, 1, 2, 3, 4, 5, 6] from rfl]
  refine env_one (i := 0) (d := 13) (k := .sat (nQ 0 (some r) l0)) (step_nfield3 (by kernel_rfl) (Opd.of_base 1 rfl) rfl) (by kernel_rfl) (by decide) h ?_
  clear h
  intro a w h
  refine env_one (i := 1) (d := 14) (k := .sat (nR 0 (some r) l0)) (step_nload_row (by kernel_rfl) (Opd.of_base 13 rfl) rfl) (by kernel_rfl) (by decide) h ?_
  clear h
  intro a w h
  refine env_one (i := 2) (d := 15) (k := .sat (nP 0 (some r) ((Bl.arg0 l0).1) ((Bl.arg0 l0).2))) (step_nindex (k := 0) (r := (Tm.dropF l0 1)) (by kernel_rfl) (Opd.of_base 14 rfl) (Opd.const _) (Bl.drop0 hl2) rfl) (by kernel_rfl) (by decide) h ?_
  clear h
  intro a w h
  refine env_one (i := 3) (d := 16) (k := .sat (nT 0 (some r) ((Bl.arg0 l0).1) ((Bl.arg0 l0).2))) (step_nload (by kernel_rfl) (Opd.of_base 15 rfl) rfl) (by kernel_rfl) (by decide) h ?_
  clear h
  intro a w h
  refine env_one (i := 4) (d := 17) (k := .sat (nS nb (some r) ((Tm.cloneOf ((Bl.arg0 l0).1) ((Bl.arg0 l0).2)).1) ((Tm.cloneOf ((Bl.arg0 l0).1) ((Bl.arg0 l0).2)).2))) (step_cloneS (g := 990) (by kernel_rfl) (Opd.ofT (Opd.of_base 16 rfl)) (Opd.of_base 990 rfl) rfl) (by kernel_rfl) (by decide) h ?_
  clear h
  intro a w h
  refine env_storeS (i := 5) (x := 2) (y := 17) (r := r) [(1, .sat (nP 0 (some r) p0 l0)), (990, .sat (gP nb (some r))), (3, .val (.bool false)), (14, .sat (nR 0 (some r) l0)), (15, .sat (nP 0 (some r) ((Bl.arg0 l0).1) ((Bl.arg0 l0).2))), (16, .sat (nT 0 (some r) ((Bl.arg0 l0).1) ((Bl.arg0 l0).2)))] (by kernel_rfl) rfl rfl hr (stays_cons 1 rfl (away_nP _ _ _ _) (stays_cons 990 rfl (away_gP _ _ _) (stays_cons 3 rfl (away_val _ _) (stays_cons 14 rfl (away_nR _ _ _) (stays_cons 15 rfl (away_nP _ _ _ _) (stays_cons 16 rfl (away_nT _ _ _ _) (stays_nil _ _))))))) h ?_
  clear h
  intro a w h
  refine env_one (i := 6) (d := 3) (k := .val (.bool true)) (step_assign (by kernel_rfl) (Opd.const _) rfl) (by kernel_rfl) (by decide) h ?_
  clear h
  intro a w h
  exact hQ a w (h.keep [990, 3, 2])
set_option maxHeartbeats 1000000 in
theorem sFormal_any (p0 : Pay) (l0 : Fo) (A0 : Option Addr) (c0 : Nat) (B : Nat) (w : World) (hA0 : ArgsB w B A0 (Tm.len l0) l0) (hB : B ≤ w.heap.size)  : Calls Try.prog 32 #[tv p0 A0 (Tm.len l0) c0] w (MkBS ((Bl.formal p0 l0).1).1 ((Bl.formal p0 l0).1).2 ((Bl.formal p0 l0).2) w) := by
  refine calls_of_wp Try.func32 sFormal_body ?_
  obtain ⟨v0, hv0⟩ : ∃ v : Value, v = tv p0 A0 (Tm.len l0) c0 := ⟨_, rfl⟩
  rw [← hv0]
  have hk0 : (Kd.term p0 l0).R v0 w := by rw [hv0]; exact ⟨A0, c0, rfl, hA0.up hB⟩
  have hsN : (#[v0] ++ Array.replicate (Try.f32.ntmps - #[v0].size) undef : Array Value).size = 18 := by kernel_rfl
  have gs0 : (#[v0] ++ Array.replicate (Try.f32.ntmps - #[v0].size) undef : Array Value).getD 0 undef = v0 := by kernel_rfl
  generalize (#[v0] ++ Array.replicate (Try.f32.ntmps - #[v0].size) undef : Array Value) = tm at hsN gs0 ⊢
  obtain ⟨a, ha0⟩ : ∃ a : Act, a = ⟨tm, []⟩ := ⟨_, rfl⟩
  have h : Hold 18 [(0, .term p0 l0)] w ⟨tm, []⟩ w := ⟨hsN, rfl, Below.refl _ _, (slots_cons 0 (by rw [gs0]; exact hk0) slots_nil)⟩
  obtain ⟨nb, hnb⟩ : ∃ nb, nb = w.heap.size := ⟨_, rfl⟩
  have hn : nb ≤ w.heap.size := by omega
  refine wp_seq ?_
  refine sFormal0a_region p0 l0 nb  hn h ?_
  intro r a w1 hr h
  show Code.wp _ _ _ a w1
  refine wp_seq ?_
  refine wp_seq ?_
  rcases Bool.eq_false_or_eq_true (Tm.validB p0 l0) with hv | hv
  rotate_left
  · refine sFormal1a_region p0 l0 nb r hv hr h ?_
    intro a w1 h
    show Code.wp _ _ _ a w1
    refine env_cond (b := true) rfl h ?_
    have h := h.keep [1, 2, 990, 3]
    show Code.wp _ _ _ a w1
    refine wp_seq ?_
    refine sFormal2a_region p0 l0 nb r  hr h ?_
    intro a w1 h
    show Code.wp _ _ _ a w1
    have ev : Bl.formal p0 l0 = ((zp, .nil), false) := by simp [Bl.formal, hv]
    rw [ev]
    refine wp_ret ?_
    (try simp only [then_ret, block_ret])
    exact law_cb rfl (h.get 3 rfl) (h.get 2 rfl) h.defers fun A c ha => ⟨A, c, rfl, ArgsIn.nil _ _ _, h.world⟩
  rcases Bool.eq_false_or_eq_true (Bl.isS p0 l0 ⟨#[101, 114, 114, 111, 114]⟩ 2) with hs | hs
  rotate_left
  · refine sFormal1b_region p0 l0 nb r hv hs hr h ?_
    intro a w1 h
    show Code.wp _ _ _ a w1
    refine env_cond (b := true) rfl h ?_
    have h := h.keep [1, 2, 990, 3]
    show Code.wp _ _ _ a w1
    refine wp_seq ?_
    refine sFormal2a_region p0 l0 nb r  hr h ?_
    intro a w1 h
    show Code.wp _ _ _ a w1
    have ev : Bl.formal p0 l0 = ((zp, .nil), false) := by simp [Bl.formal, hv, hs]
    rw [ev]
    refine wp_ret ?_
    (try simp only [then_ret, block_ret])
    exact law_cb rfl (h.get 3 rfl) (h.get 2 rfl) h.defers fun A c ha => ⟨A, c, rfl, ArgsIn.nil _ _ _, h.world⟩
  · refine sFormal1c_region p0 l0 nb r hv hs hr h ?_
    intro a w1 h
    show Code.wp _ _ _ a w1
    refine env_cond (b := false) rfl h ?_
    refine wp_skip ?_
    have h := h.keep [1, 2, 990, 3]
    show Code.wp _ _ _ a w1
    refine wp_seq ?_
    have hl2 : Tm.len l0 = 2 := Bl.isS_len hs
    refine sFormal3a_region p0 l0 nb r hl2 hr h ?_
    intro a w1 h
    show Code.wp _ _ _ a w1
    have ev : Bl.formal p0 l0 = (((Tm.cloneOf ((Bl.arg0 l0).1) ((Bl.arg0 l0).2)).1, (Tm.cloneOf ((Bl.arg0 l0).1) ((Bl.arg0 l0).2)).2), true) := by simp [Bl.formal, hv, hs]
    rw [ev]
    refine wp_ret ?_
    (try simp only [then_ret, block_ret])
    exact law_cbS rfl (h.get 3 rfl) (h.get 2 rfl) h.defers fun A c ha => ⟨A, c, rfl, ha.mono fun b hb => ⟨by have := hb.1.1; omega, hb.1.2.1, hb.2⟩, h.world⟩
section
variable {ops : Array Oper} {Q : Exit → Act → World → Prop} {E : Nat → Kd} {D : Nat → Nat} {base : Nat → Option Kd} {N : Nat}
end
end Go.Proofs.Ytapcnehpechkpaa
