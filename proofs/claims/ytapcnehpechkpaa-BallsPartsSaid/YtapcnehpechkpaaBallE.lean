/-
  The reference's ball.
-/
import Derived.Test.YtapcnehpechkpaaRefM
namespace Go.Proofs.Ytapcnehpechkpaa
set_option linter.unusedVariables false
set_option linter.unusedSimpArgs false
set_option maxRecDepth 100000
open Go.RowKit
theorem rat6_any (s : ByteArray) (w : World) : Calls Try.prog 65 #[.string s] w (Makes (2, 0, s) .nil w) := (rat_any s w).mono fun e w' ⟨he, hb⟩ => ⟨none, 0, he, ArgsIn.nil _ _ _, hb⟩
theorem rnum6_any (n : Int) (w : World) : Calls Try.prog 68 #[.int .i64 n] w (Makes (1, n, ByteArray.empty) .nil w) := (rnum_any n w).mono fun e w' ⟨he, hb⟩ => ⟨none, 0, he, ArgsIn.nil _ _ _, hb⟩
section
variable {ops : Array Oper} {Q : Exit → Act → World → Prop} {E : Nat → Kd} {D : Nat → Nat} {base : Nat → Option Kd} {N : Nat}
theorem step_rstr {i n : Nat} {G : Option Nat} {x y : Operand} {s : ByteArray} {F : Fo} (hop : (ops[i]?).map (·.op) = some (.call { callee := .value (.func 67), args := #[x, y], argTypes := #[9, 22] })) (hx : Opd ops E D base N i x (.val (.string s))) (hy : Opd ops E D base N i y (.sat (nR n G F))) (hE : E i = .sat (nT n G (3, 0, s) F)) : Step Try.prog ops Q E D base N i :=
  step_call hop (fun _ _ => by kernel_rfl) fun a w h => by
    have e0 : a.eval x = .string s := hx a w h
    obtain ⟨A, c, e, ha⟩ := hy a w h
    rw [show (#[x, y] : Array Operand).map a.eval = #[.string s, .slice A (Tm.len F) c] by rw [← e0, ← e]; simp]
    exact (rstr_any s A (Tm.len F) c w).mono fun e w' ⟨he, hbl⟩ => ⟨_, he, by rw [hE]; exact ⟨A, c, rfl, ha.ns hbl⟩, hbl⟩
theorem step_rat6 {i : Nat} {n g : Nat} {G : Option Nat} {x0 : Operand} {s0 : ByteArray} (hop : (ops[i]?).map (·.op) = some (.call { callee := .value (.func 65), args := #[x0], argTypes := #[9] })) (h0 : Opd ops E D base N i x0 (.val (.string s0))) (hg : Opd ops E D base N i (.tmp g) (.sat (gP n G))) (hE : E i = .sat (nT n G (2, 0, s0) .nil)) : Step Try.prog ops Q E D base N i :=
  step_mk hop (fun _ _ => by kernel_rfl) hg (fun a w h => by
    have e0 : a.eval x0 = .string s0 := h0 a w h
    rw [show (#[x0] : Array Operand).map a.eval = #[.string s0] by rw [← e0]; simp]
    exact rat6_any s0 w ) hE
theorem step_rnum6 {i : Nat} {n g : Nat} {G : Option Nat} {x0 : Operand} {s0 : Int} (hop : (ops[i]?).map (·.op) = some (.call { callee := .value (.func 68), args := #[x0], argTypes := #[2] })) (h0 : Opd ops E D base N i x0 (.val (.int .i64 s0))) (hg : Opd ops E D base N i (.tmp g) (.sat (gP n G))) (hE : E i = .sat (nT n G (1, s0, ByteArray.empty) .nil)) : Step Try.prog ops Q E D base N i :=
  step_mk hop (fun _ _ => by kernel_rfl) hg (fun a w h => by
    have e0 : a.eval x0 = .int .i64 s0 := h0 a w h
    rw [show (#[x0] : Array Operand).map a.eval = #[.int .i64 s0] by rw [← e0]; simp]
    exact rnum6_any s0 w ) hE
end
noncomputable def rball0Ops : Array Oper := ((Try.f64.body).bind (findReg 0)).getD #[]
noncomputable def rball1Ops : Array Oper := ((Try.f64.body).bind (findReg 1)).getD #[]
theorem rball_body : Try.f64.body = some (.seq (.region 0 rball0Ops false) (.seq (.region 1 rball1Ops true) .ret)) := by kernel_rfl
theorem rball0a_region {Q : Exit → Act → World → Prop} (p0 : Pay) (l0 : Fo) (nb : Nat)  {w0 : World} {a : Act} {w : World} (hn : nb ≤ w0.heap.size) (h : Hold 8 [(0, .term p0 l0)] w0 a w)
    (hQ : ∀ r a' w', w0.heap.size ≤ r → Hold 8 [(1, .sat (nP 0 (some r) p0 l0)), (2, .sat (rC nb r zp .nil)), (990, .sat (gP nb (some r)))] w0 a' w' → Q .normal a' w') : (Code.region 0 rball0Ops false).wp Try.prog Q a w := by
  refine region_seq (w0 := w) 2 (by kernel_rfl) ?_
  rw [show List.range 2 = [0, 1] from rfl]
  refine env_one (i := 0) (d := 1) (k := .ptrT p0 l0) (step_box (by kernel_rfl) (Opd.of_base 0 rfl) rfl) (by kernel_rfl) (by decide) h ?_
  clear h
  intro a w h
  refine env_res (i := 1) (d := 2) (n := nb) (fun r => [(0, .sat (nT 0 (some r) p0 l0)), (1, .sat (nP 0 (some r) p0 l0))]) (by kernel_rfl) (by decide) (by decide) hn (fun r => (goes_cons 0 rfl (turns_term _ _ _) (goes_cons 1 rfl (turns_ptr _ _ _) (goes_nil _ _)))) h ?_
  clear h
  intro r a w hr h
  exact hQ r a w hr (h.keep [1, 2, 990])
def rball1aEs (p0 : Pay) (l0 : Fo) (nb r : Nat) : List Kd := [
  .sat (nT 0 (some r) p0 l0),
  .sat (nT nb (some r) (2, 0, (⟨#[91, 93]⟩)) .nil),
  .sat (nK 0 (some r) (.node p0 l0 (.node (2, 0, (⟨#[91, 93]⟩)) .nil .nil))),
  .sat (nT 0 (some r) (3, 0, ⟨#[101, 114, 114, 111, 114]⟩) (.node p0 l0 (.node (2, 0, (⟨#[91, 93]⟩)) .nil .nil))),
  .sat (nT nb (some r) ((Tm.cloneOf (3, 0, ⟨#[101, 114, 114, 111, 114]⟩) (.node p0 l0 (.node (2, 0, (⟨#[91, 93]⟩)) .nil .nil))).1) ((Tm.cloneOf (3, 0, ⟨#[101, 114, 114, 111, 114]⟩) (.node p0 l0 (.node (2, 0, (⟨#[91, 93]⟩)) .nil .nil))).2))]
def rball1aDs : List Nat := [3, 4, 5, 6, 7]
def rball1aEnv (p0 : Pay) (l0 : Fo) (nb r : Nat) : Env := [(1, .sat (nP 0 (some r) p0 l0)), (2, .sat (rC nb r zp .nil)), (990, .sat (gP nb (some r)))]
theorem rball1a_0 {Q : Exit → Act → World → Prop} (p0 : Pay) (l0 : Fo) (nb r : Nat)  : RStep (strip rball1Ops) Q (fun i => ((rball1aEs p0 l0 nb r)[i]?).getD .any) (fun i => (rball1aDs[i]?).getD (1000 + i)) (look (rball1aEnv p0 l0 nb r)) 8 0 := fun _ => step_nload (by kernel_rfl) (Opd.of_base 1 rfl) rfl
theorem rball1a_1 {Q : Exit → Act → World → Prop} (p0 : Pay) (l0 : Fo) (nb r : Nat)  : RStep (strip rball1Ops) Q (fun i => ((rball1aEs p0 l0 nb r)[i]?).getD .any) (fun i => (rball1aDs[i]?).getD (1000 + i)) (look (rball1aEnv p0 l0 nb r)) 8 1 := fun _ => step_rat6 (g := 990) (by kernel_rfl) (Opd.const _) (Opd.of_base 990 rfl) rfl
theorem rball1a_2 {Q : Exit → Act → World → Prop} (p0 : Pay) (l0 : Fo) (nb r : Nat)  : RStep (strip rball1Ops) Q (fun i => ((rball1aEs p0 l0 nb r)[i]?).getD .any) (fun i => (rball1aDs[i]?).getD (1000 + i)) (look (rball1aEnv p0 l0 nb r)) 8 2 := fun _ => step_nslice2 (g := 990) (by kernel_rfl) (Opd.dep 0 rfl rfl (by kernel_rfl)) (Opd.low (Opd.dep 1 rfl rfl (by kernel_rfl))) (Opd.gp0 (Opd.of_base 990 rfl)) rfl
theorem rball1a_3 {Q : Exit → Act → World → Prop} (p0 : Pay) (l0 : Fo) (nb r : Nat)  : RStep (strip rball1Ops) Q (fun i => ((rball1aEs p0 l0 nb r)[i]?).getD .any) (fun i => (rball1aDs[i]?).getD (1000 + i)) (look (rball1aEnv p0 l0 nb r)) 8 3 := fun _ => step_rstr (by kernel_rfl) (Opd.const _) (Opd.ofK (Opd.dep 2 rfl rfl (by kernel_rfl))) rfl
theorem rball1a_4 {Q : Exit → Act → World → Prop} (p0 : Pay) (l0 : Fo) (nb r : Nat)  : RStep (strip rball1Ops) Q (fun i => ((rball1aEs p0 l0 nb r)[i]?).getD .any) (fun i => (rball1aDs[i]?).getD (1000 + i)) (look (rball1aEnv p0 l0 nb r)) 8 4 := fun _ => step_rclone (g := 990) (by kernel_rfl) (Opd.ofT (Opd.dep 3 rfl rfl (by kernel_rfl))) (Opd.of_base 990 rfl) rfl
theorem rball1a_region {Q : Exit → Act → World → Prop} (p0 : Pay) (l0 : Fo) (nb r : Nat)  {w0 : World} {a : Act} {w : World} (hr : w0.heap.size ≤ r) (h : Hold 8 [(1, .sat (nP 0 (some r) p0 l0)), (2, .sat (rC nb r zp .nil)), (990, .sat (gP nb (some r)))] w0 a w)
    (hQ : ∀ a' w', Hold 8 [(990, .sat (gP nb (some r))), (2, .sat (rC nb r ((Tm.cloneOf (3, 0, ⟨#[101, 114, 114, 111, 114]⟩) (.node p0 l0 (.node (2, 0, (⟨#[91, 93]⟩)) .nil .nil))).1) ((Tm.cloneOf (3, 0, ⟨#[101, 114, 114, 111, 114]⟩) (.node p0 l0 (.node (2, 0, (⟨#[91, 93]⟩)) .nil .nil))).2)))] w0 a' w' → Q .normal a' w') : (Code.region 1 rball1Ops true).wp Try.prog Q a w := by
  have hall : ∀ i, i < 0 → RStep (strip rball1Ops) Q (fun i => ((rball1aEs p0 l0 nb r)[i]?).getD .any) (fun i => (rball1aDs[i]?).getD (1000 + i)) (look (rball1aEnv p0 l0 nb r)) 8 i := fun i hi => absurd hi (by omega)
  have hall := below_succ hall (rball1a_0 p0 l0 nb r )
  have hall := below_succ hall (rball1a_1 p0 l0 nb r )
  have hall := below_succ hall (rball1a_2 p0 l0 nb r )
  have hall := below_succ hall (rball1a_3 p0 l0 nb r )
  have hall := below_succ hall (rball1a_4 p0 l0 nb r )
  refine env_then (m := 5) (n := 6) rball1aDs (rball1aEs p0 l0 nb r) rfl (by kernel_rfl) (by decide) (by kernel_rfl) (of_decide_eq_true (by kernel_rfl)) (by kernel_rfl) (by kernel_rfl) (fun i_ hi_ => hall i_ hi_) h fun a w h => ?_
  clear hall
  have h := h.keep [1, 2, 990, 3, 4, 5, 6, 7]
  show wpOps Try.prog _ Q [5] a w
  refine env_store (i := 5) (x := 2) (y := 7) (r := r) [(1, .sat (nP 0 (some r) p0 l0)), (990, .sat (gP nb (some r))), (3, .sat (nT 0 (some r) p0 l0)), (4, .sat (nT nb (some r) (2, 0, (⟨#[91, 93]⟩)) .nil)), (5, .sat (nK 0 (some r) (.node p0 l0 (.node (2, 0, (⟨#[91, 93]⟩)) .nil .nil)))), (6, .sat (nT 0 (some r) (3, 0, ⟨#[101, 114, 114, 111, 114]⟩) (.node p0 l0 (.node (2, 0, (⟨#[91, 93]⟩)) .nil .nil)))), (7, .sat (nT nb (some r) ((Tm.cloneOf (3, 0, ⟨#[101, 114, 114, 111, 114]⟩) (.node p0 l0 (.node (2, 0, (⟨#[91, 93]⟩)) .nil .nil))).1) ((Tm.cloneOf (3, 0, ⟨#[101, 114, 114, 111, 114]⟩) (.node p0 l0 (.node (2, 0, (⟨#[91, 93]⟩)) .nil .nil))).2)))] (by kernel_rfl) rfl rfl hr (stays_cons 1 rfl (away_nP _ _ _ _) (stays_cons 990 rfl (away_gP _ _ _) (stays_cons 3 rfl (away_nT _ _ _ _) (stays_cons 4 rfl (away_nT _ _ _ _) (stays_cons 5 rfl (away_nK _ _ _) (stays_cons 6 rfl (away_nT _ _ _ _) (stays_cons 7 rfl (away_nT _ _ _ _) (stays_nil _ _)))))))) h ?_
  clear h
  intro a w h
  exact hQ a w (h.keep [990, 2])
set_option maxHeartbeats 1000000 in
theorem rball_any (p0 : Pay) (l0 : Fo) (A0 : Option Addr) (c0 : Nat) (B : Nat) (w : World) (hA0 : ArgsB w B A0 (Tm.len l0) l0) (hB : B ≤ w.heap.size)  : Calls Try.prog 64 #[tv p0 A0 (Tm.len l0) c0] w (Makes (Bl.ballE p0 l0).1 (Bl.ballE p0 l0).2 w) := by
  refine calls_of_wp Try.func64 rball_body ?_
  obtain ⟨v0, hv0⟩ : ∃ v : Value, v = tv p0 A0 (Tm.len l0) c0 := ⟨_, rfl⟩
  rw [← hv0]
  have hk0 : (Kd.term p0 l0).R v0 w := by rw [hv0]; exact ⟨A0, c0, rfl, hA0.up hB⟩
  have hsN : (#[v0] ++ Array.replicate (Try.f64.ntmps - #[v0].size) undef : Array Value).size = 8 := by kernel_rfl
  have gs0 : (#[v0] ++ Array.replicate (Try.f64.ntmps - #[v0].size) undef : Array Value).getD 0 undef = v0 := by kernel_rfl
  generalize (#[v0] ++ Array.replicate (Try.f64.ntmps - #[v0].size) undef : Array Value) = tm at hsN gs0 ⊢
  obtain ⟨a, ha0⟩ : ∃ a : Act, a = ⟨tm, []⟩ := ⟨_, rfl⟩
  have h : Hold 8 [(0, .term p0 l0)] w ⟨tm, []⟩ w := ⟨hsN, rfl, Below.refl _ _, (slots_cons 0 (by rw [gs0]; exact hk0) slots_nil)⟩
  obtain ⟨nb, hnb⟩ : ∃ nb, nb = w.heap.size := ⟨_, rfl⟩
  have hn : nb ≤ w.heap.size := by omega
  refine wp_seq ?_
  refine rball0a_region p0 l0 nb  hn h ?_
  intro r a w1 hr h
  show Code.wp _ _ _ a w1
  refine wp_seq ?_
  refine rball1a_region p0 l0 nb r  hr h ?_
  intro a w1 h
  show Code.wp _ _ _ a w1
  refine wp_ret ?_
  (try simp only [then_ret, block_ret])
  exact law_cell rfl (h.get 2 rfl) h.defers fun A c ha => ⟨A, c, rfl, ha.mono fun b hb => ⟨by have := hb.1; omega, hb.2.1⟩, h.world⟩
section
variable {ops : Array Oper} {Q : Exit → Act → World → Prop} {E : Nat → Kd} {D : Nat → Nat} {base : Nat → Option Kd} {N : Nat}
theorem step_rball {i : Nat} {n g : Nat} {G : Option Nat} {x0 : Operand} {p0 : Pay} {l0 : Fo} (hop : (ops[i]?).map (·.op) = some (.call { callee := .value (.func 64), args := #[x0], argTypes := #[24] })) (h0 : Opd ops E D base N i x0 (.term p0 l0)) (hg : Opd ops E D base N i (.tmp g) (.sat (gP n G))) (hE : E i = .sat (nT n G (Bl.ballE p0 l0).1 (Bl.ballE p0 l0).2)) : Step Try.prog ops Q E D base N i :=
  step_mk hop (fun _ _ => by kernel_rfl) hg (fun a w h => by
    obtain ⟨A0, c0, e0, ha0⟩ := h0 a w h
    rw [show (#[x0] : Array Operand).map a.eval = #[tv p0 A0 (Tm.len l0) c0] by rw [← e0]; simp]
    exact rball_any p0 l0 A0 c0 w.heap.size w ha0 (Nat.le_refl _)) hE
end
end Go.Proofs.Ytapcnehpechkpaa
