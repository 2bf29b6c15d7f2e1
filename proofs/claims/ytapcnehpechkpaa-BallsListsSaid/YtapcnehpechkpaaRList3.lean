/-
  The reference's List of package term.
-/
import Derived.Test.YtapcnehpechkpaaKnownA
import Derived.Test.YtapcnehpechkpaaFacts6
namespace Go.Proofs.Ytapcnehpechkpaa
set_option linter.unusedVariables false
set_option linter.unusedSimpArgs false
set_option maxRecDepth 100000
open Go.RowKit
set_option maxHeartbeats 1000000 in
theorem rvalidc_any (p : Pay) (l : Fo) (A : Option Addr) (c B : Nat) (w : World) (hA : ArgsB w B A (Tm.len l) l) (hB : B ≤ w.heap.size) :
    Calls Try.prog 81 #[tv p A (Tm.len l) c] w (Makes (Tm.cloneOf p l).1 (Tm.cloneOf p l).2 w) := by
  have k0 : ∀ o1 o2 : Obj, Below w.heap.size w ((w.alloc o1).alloc o2) := fun o1 o2 => Only.below (X := fun _ => False) (((Only.refl _ w).alloc _).alloc _) (Nat.le_refl _) (fun _ h => h.elim)
  have K0 := Lib.hid k0
  have C1 := Lib.hid fun (w1 : World) (h1 : ArgsB w1 B A (Tm.len l) l) (h2 : B ≤ w1.heap.size) => rclone_any p l A c B w1 h1 h2
  unfold Makes at C1
  obtain ⟨n, hn⟩ : ∃ n, n = Tm.len l := ⟨_, rfl⟩
  rw [← hn] at hA C1 ⊢
  have HA := Lib.hid hA
  clear hA hn
  unfold Makes
  obtain ⟨n2, hn2⟩ : ∃ n2, n2 = Tm.len ((Tm.cloneOf p l).2) := ⟨_, rfl⟩
  rw [← hn2] at C1 ⊢
  have HN2 := Lib.hid hn2
  clear hn2 k0
  go_enter Try.func81, Try.ntmps81
  go_wp2_with fail
  refine (C1.out _ ?_ ?_).mono ?_
  · exact HA.out.below (K0.out _ _) hB
  · simp; omega
  rintro e w1 ⟨A1, c1, rfl, ha1, hb1⟩
  have hsz := hb1.size
  try simp at hsz
  have hr : ResAt w1 (w.heap.size + 1) := (ResAt.new (w.alloc _) 24 _ (by simp)).below hb1 (by first | omega | (simp; done) | (simp; omega))
  have hw1 : w.heap.size + 1 < w1.heap.size := by omega
  have r0 := hr.t.kind
  have r1 := hr.t.num
  have r2 := hr.t.name
  have r3 := hr.t.args
  have q0 := hr.s.s0
  have q1 := hr.s.s1
  have q2 := hr.s.s2
  have q3 := hr.s.s3
  have HA1 := Lib.hid ha1
  have HB1 := Lib.hid ((K0.out _ _).trans (hb1.mono (by first | omega | (simp; done) | (simp; omega))) : Below w.heap.size w w1)
  have HR := Lib.hid hr
  clear ha1 hb1 hr
  go_wp2_with fail
  have st := stored w1 (w.heap.size + 1) (Tm.cloneOf p l).1 zp A1 none (n2) c1 0 0 HR.out.t HR.out.s
  show bodyPost _ _ _ _ _ (set4 w1 (w.heap.size + 1) 0 (Tm.cloneOf p l).1 A1 (n2) c1)
  generalize set4 w1 (w.heap.size + 1) 0 (Tm.cloneOf p l).1 A1 (n2) c1 = w2 at st ⊢
  refine bodyPost_ret (term_result (q := 2) rfl _ _ (w.heap.size + 1) (Tm.cloneOf p l).1 A1 (n2) c1 rfl st.term) rfl ?_
  exact ⟨A1, c1, rfl, st.fresh (N := w.heap.size + 2) (HA1.out.mono (fun b hb => by have h1 := hb.1; have h2 := hb.2; (try simp only [World.size_alloc] at h1); omega)) (by omega) (by omega), st.below _ _ HB1.out (by omega)⟩

section
variable {ops : Array Oper} {Q : Exit → Act → World → Prop} {E : Nat → Kd} {D : Nat → Nat} {base : Nat → Option Kd} {N : Nat}
theorem step_rvalidc {i : Nat} {n g : Nat} {G : Option Nat} {x0 : Operand} {p0 : Pay} {l0 : Fo} (hop : (ops[i]?).map (·.op) = some (.call { callee := .value (.func 81), args := #[x0], argTypes := #[24] })) (h0 : Opd ops E D base N i x0 (.term p0 l0)) (hg : Opd ops E D base N i (.tmp g) (.sat (gP n G))) (hE : E i = .sat (nT n G (Tm.cloneOf p0 l0).1 (Tm.cloneOf p0 l0).2)) : Step Try.prog ops Q E D base N i :=
  step_mk hop (fun _ _ => by kernel_rfl) hg (fun a w h => by
    obtain ⟨A0, c0, e0, ha0⟩ := h0 a w h
    rw [show (#[x0] : Array Operand).map a.eval = #[tv p0 A0 (Tm.len l0) c0] by rw [← e0]; simp]
    exact rvalidc_any p0 l0 A0 c0 w.heap.size w ha0 (Nat.le_refl _)) hE
end
namespace Bl
def consT (d : Fo) (t : Pay × Fo) : Pay × Fo := match d with
  | .node q m _ => ((3, 0, ⟨#[46]⟩), .node q m (.node t.1 t.2 .nil))
  | .nil => t
/-- The list of the last j elements of a row, and a tail. -/
def lastT (F : Fo) (p : Pay) (l : Fo) : Nat → Pay × Fo
  | 0 => (p, l)
  | j + 1 => consT (Tm.dropF F (Tm.len F - (j + 1))) (lastT F p l j)
theorem lastT_succ {F : Fo} {p : Pay} {l : Fo} {j k : Nat} {q : Pay} {m r : Fo} (hk : k + j + 1 = Tm.len F) (hd : Tm.dropF F k = .node q m r) : lastT F p l (j + 1) = ((3, 0, ⟨#[46]⟩), .node q m (.node (lastT F p l j).1 (lastT F p l j).2 .nil)) := by
  show consT (Tm.dropF F (Tm.len F - (j + 1))) (lastT F p l j) = _
  rw [show Tm.len F - (j + 1) = k by omega, hd]
  rfl
def mkList (F : Fo) (p : Pay) (l : Fo) : Pay × Fo := if (2000 : Int) < ((Tm.len F : Nat) : Int) then (zp, .nil) else Tm.cloneOf (lastT F p l (Tm.len F)).1 (lastT F p l (Tm.len F)).2
end Bl
theorem turnsA_nT (n r : Nat) (G : Option Nat) (p : Pay) (l : Fo) : Turns r (.sat (nT n G p l)) (.sat (nT 0 (some r) p l)) := by
  rintro v w o hr ⟨A, c, e, h⟩
  exact ⟨A, c, e, (h.keep fun b hb => Below.heap_alloc w o b hb.2.1).mono fun b hb => up_ns o hr hb.2.1⟩
theorem turnsA_nR (n r : Nat) (G : Option Nat) (F : Fo) : Turns r (.sat (nR n G F)) (.sat (nR 0 (some r) F)) := by
  rintro v w o hr ⟨A, c, e, h⟩
  exact ⟨A, c, e, (h.keep fun b hb => Below.heap_alloc w o b hb.2.1).mono fun b hb => up_ns o hr hb.2.1⟩
noncomputable def rList30Ops : Array Oper := ((Try.f57.body).bind (findReg 0)).getD #[]
noncomputable def rList31Ops : Array Oper := ((Try.f57.body).bind (findReg 1)).getD #[]
noncomputable def rList32Ops : Array Oper := ((Try.f57.body).bind (findReg 2)).getD #[]
noncomputable def rList33Ops : Array Oper := ((Try.f57.body).bind (findReg 3)).getD #[]
noncomputable def rList34Ops : Array Oper := ((Try.f57.body).bind (findReg 4)).getD #[]
noncomputable def rList35Ops : Array Oper := ((Try.f57.body).bind (findReg 5)).getD #[]
noncomputable def rList36Ops : Array Oper := ((Try.f57.body).bind (findReg 6)).getD #[]
noncomputable def rList37Ops : Array Oper := ((Try.f57.body).bind (findReg 7)).getD #[]
noncomputable def rList38Ops : Array Oper := ((Try.f57.body).bind (findReg 8)).getD #[]
theorem rList3_body : Try.f57.body = some (.seq (.region 0 rList30Ops false) (.seq (.seq (.region 1 rList31Ops false) (.cond (.tmp 9) (.seq (.region 2 rList32Ops false) .ret) .skip)) (.seq (.region 3 rList33Ops false) (.seq (.seq (.region 4 rList34Ops false) (.block 0 (.loop (.seq (.seq (.region 5 rList35Ops false) (.cond (.tmp 16) .skip (.exit 0))) (.seq (.block 1 (.region 7 rList37Ops true)) (.region 6 rList36Ops false)))))) (.seq (.region 8 rList38Ops false) .ret))))) := by kernel_rfl
theorem rList30a_region {Q : Exit → Act → World → Prop} (F0 : Fo) (p1 : Pay) (l1 : Fo) (nb : Nat)  {w0 : World} {a : Act} {w : World} (hn : nb ≤ w0.heap.size) (h : Hold 28 [(0, .row F0), (1, .term p1 l1)] w0 a w)
    (hQ : ∀ r a' w', w0.heap.size ≤ r → Hold 28 [(0, .sat (nR 0 (some r) F0)), (3, .sat (nP 0 (some r) p1 l1)), (4, .sat (rC nb r zp .nil)), (990, .sat (gP nb (some r)))] w0 a' w' → Q .normal a' w') : (Code.region 0 rList30Ops false).wp Try.prog Q a w := by
  refine region_seq (w0 := w) 2 (by kernel_rfl) ?_
  rw [show List.range 2 = [0, 1] from rfl]
  refine env_one (i := 0) (d := 3) (k := .ptrT p1 l1) (step_box (by kernel_rfl) (Opd.of_base 1 rfl) rfl) (by kernel_rfl) (by decide) h ?_
  clear h
  intro a w h
  refine env_res (i := 1) (d := 4) (n := nb) (fun r => [(0, .sat (nR 0 (some r) F0)), (1, .sat (nT 0 (some r) p1 l1)), (3, .sat (nP 0 (some r) p1 l1))]) (by kernel_rfl) (by decide) (by decide) hn (fun r => (goes_cons 0 rfl (turns_row _ _) (goes_cons 1 rfl (turns_term _ _ _) (goes_cons 3 rfl (turns_ptr _ _ _) (goes_nil _ _))))) h ?_
  clear h
  intro r a w hr h
  exact hQ r a w hr (h.keep [0, 3, 4, 990])
theorem rList31a_region {Q : Exit → Act → World → Prop} (F0 : Fo) (p1 : Pay) (l1 : Fo) (nb r : Nat) (hb : (2000 : Int) < ((Tm.len F0 : Nat) : Int)) {w0 : World} {a : Act} {w : World} (hr : w0.heap.size ≤ r) (h : Hold 28 [(0, .sat (nR 0 (some r) F0)), (3, .sat (nP 0 (some r) p1 l1)), (4, .sat (rC nb r zp .nil)), (990, .sat (gP nb (some r)))] w0 a w)
    (hQ : ∀ a' w', Hold 28 [(0, .sat (nR 0 (some r) F0)), (3, .sat (nP 0 (some r) p1 l1)), (4, .sat (rC nb r zp .nil)), (990, .sat (gP nb (some r))), (9, .val (.bool true))] w0 a' w' → Q .normal a' w') : (Code.region 1 rList31Ops false).wp Try.prog Q a w := by
  refine region_seq (w0 := w) 3 (by kernel_rfl) ?_
  rw [show List.range 3 = [0, 1, 2] from rfl]
  refine env_one (i := 0) (d := 7) (k := .sat (nR 0 (some r) F0)) (step_move (by kernel_rfl) (Opd.of_base 0 rfl) rfl) (by kernel_rfl) (by decide) h ?_
  clear h
  intro a w h
  refine env_one (i := 1) (d := 8) (k := .val (.int .i64 ((Tm.len F0 : Nat) : Int))) (step_len_row (by kernel_rfl) (Opd.ofR (Opd.of_base 7 rfl)) rfl) (by kernel_rfl) (by decide) h ?_
  clear h
  intro a w h
  refine env_one (i := 2) (d := 9) (k := .val (.bool true)) (step_gt_int (m := ((Tm.len F0 : Nat) : Int)) (n := 2000) (by kernel_rfl) (Opd.of_base 8 rfl) (Opd.const _) (decide_eq_true hb) rfl) (by kernel_rfl) (by decide) h ?_
  clear h
  intro a w h
  exact hQ a w (h.keep [0, 3, 4, 990, 9])
theorem rList32a_region {Q : Exit → Act → World → Prop} (F0 : Fo) (p1 : Pay) (l1 : Fo) (nb r : Nat)  {w0 : World} {a : Act} {w : World} (hr : w0.heap.size ≤ r) (h : Hold 28 [(0, .sat (nR 0 (some r) F0)), (3, .sat (nP 0 (some r) p1 l1)), (4, .sat (rC nb r zp .nil)), (990, .sat (gP nb (some r)))] w0 a w)
    (hQ : ∀ a' w', Hold 28 [(0, .sat (nR 0 (some r) F0)), (3, .sat (nP 0 (some r) p1 l1)), (990, .sat (gP nb (some r))), (4, .sat (rC nb r zp .nil))] w0 a' w' → Q .normal a' w') : (Code.region 2 rList32Ops false).wp Try.prog Q a w := by
  refine region_seq (w0 := w) 2 (by kernel_rfl) ?_
  rw [show List.range 2 = [0, 1] from rfl]
  refine env_one (i := 0) (d := 10) (k := .sat (nT nb (some r) zp .nil)) (step_nzero (by kernel_rfl) rfl) (by kernel_rfl) (by decide) h ?_
  clear h
  intro a w h
  refine env_store (i := 1) (x := 4) (y := 10) (r := r) [(0, .sat (nR 0 (some r) F0)), (3, .sat (nP 0 (some r) p1 l1)), (990, .sat (gP nb (some r))), (10, .sat (nT nb (some r) zp .nil))] (by kernel_rfl) rfl rfl hr (stays_cons 0 rfl (away_nR _ _ _) (stays_cons 3 rfl (away_nP _ _ _ _) (stays_cons 990 rfl (away_gP _ _ _) (stays_cons 10 rfl (away_nT _ _ _ _) (stays_nil _ _))))) h ?_
  clear h
  intro a w h
  exact hQ a w (h.keep [0, 3, 990, 4])
theorem rList31b_region {Q : Exit → Act → World → Prop} (F0 : Fo) (p1 : Pay) (l1 : Fo) (nb r : Nat) (hb : ¬ (2000 : Int) < ((Tm.len F0 : Nat) : Int)) {w0 : World} {a : Act} {w : World} (hr : w0.heap.size ≤ r) (h : Hold 28 [(0, .sat (nR 0 (some r) F0)), (3, .sat (nP 0 (some r) p1 l1)), (4, .sat (rC nb r zp .nil)), (990, .sat (gP nb (some r)))] w0 a w)
    (hQ : ∀ a' w', Hold 28 [(0, .sat (nR 0 (some r) F0)), (3, .sat (nP 0 (some r) p1 l1)), (4, .sat (rC nb r zp .nil)), (990, .sat (gP nb (some r))), (9, .val (.bool false))] w0 a' w' → Q .normal a' w') : (Code.region 1 rList31Ops false).wp Try.prog Q a w := by
  refine region_seq (w0 := w) 3 (by kernel_rfl) ?_
  rw [show List.range 3 = [0, 1, 2] from rfl]
  refine env_one (i := 0) (d := 7) (k := .sat (nR 0 (some r) F0)) (step_move (by kernel_rfl) (Opd.of_base 0 rfl) rfl) (by kernel_rfl) (by decide) h ?_
  clear h
  intro a w h
  refine env_one (i := 1) (d := 8) (k := .val (.int .i64 ((Tm.len F0 : Nat) : Int))) (step_len_row (by kernel_rfl) (Opd.ofR (Opd.of_base 7 rfl)) rfl) (by kernel_rfl) (by decide) h ?_
  clear h
  intro a w h
  refine env_one (i := 2) (d := 9) (k := .val (.bool false)) (step_gt_int (m := ((Tm.len F0 : Nat) : Int)) (n := 2000) (by kernel_rfl) (Opd.of_base 8 rfl) (Opd.const _) (decide_eq_false hb) rfl) (by kernel_rfl) (by decide) h ?_
  clear h
  intro a w h
  exact hQ a w (h.keep [0, 3, 4, 990, 9])
theorem rList33_region {Q : Exit → Act → World → Prop} (F0 : Fo) (p1 : Pay) (l1 : Fo) (nb r : Nat) {w0 : World} {a : Act} {w : World} (h : Hold 28 [(0, .sat (nR 0 (some r) F0)), (3, .sat (nP 0 (some r) p1 l1)), (4, .sat (rC nb r zp .nil)), (990, .sat (gP nb (some r)))] w0 a w)
    (hQ : ∀ a' w', (∃ r2, w0.heap.size ≤ r2 ∧ Hold 28 [(0, .sat (nR 0 (some r2) F0)), (4, .sat (zC r r2)), (5, .sat (rC 0 r2 p1 l1)), (990, .sat (gP 0 (some r2)))] w0 a' w') → Q .normal a' w') : (Code.region 3 rList33Ops false).wp Try.prog Q a w := by
  refine region_seq (w0 := w) 3 (by kernel_rfl) ?_
  rw [show List.range 3 = [0, 1, 2] from rfl]
  refine env_one (i := 0) (d := 11) (k := .sat (nT 0 (some r) p1 l1)) (step_nload (by kernel_rfl) (Opd.of_base 3 rfl) rfl) (by kernel_rfl) (by decide) h ?_
  clear h
  intro a w h
  refine env_res (i := 1) (d := 5) (n := 0) (fun r2 => [(0, .sat (nR 0 (some r2) F0)), (4, .sat (zC r r2)), (11, .sat (nT 0 (some r2) p1 l1))]) (by kernel_rfl) (by decide) (by decide) (Nat.zero_le _) (fun r2 => goes_cons 0 rfl (turnsA_nR _ _ _ _) (goes_cons 4 rfl (turns_zC _ _ _) (goes_cons 11 rfl (turnsA_nT _ _ _ _ _) (goes_nil _ _)))) h ?_
  clear h
  intro r2 a w hr2 h
  refine env_store (i := 2) (x := 5) (y := 11) (r := r2) [(0, .sat (nR 0 (some r2) F0)), (4, .sat (zC r r2)), (990, .sat (gP 0 (some r2)))] (by kernel_rfl) rfl rfl hr2 (stays_cons 0 rfl (away_nR _ _ _) (stays_cons 4 rfl (away_zC _ _) (stays_cons 990 rfl (away_gP _ _ _) (stays_nil _ _)))) h ?_
  clear h
  intro a w h
  exact hQ a w ⟨r2, hr2, h.keep [0, 4, 5, 990]⟩
theorem rList34a_region {Q : Exit → Act → World → Prop} (F0 : Fo) (p1 : Pay) (l1 : Fo) (r2 : Nat) (nb r : Nat) (hb : ¬ (2000 : Int) < ((Tm.len F0 : Nat) : Int)) {w0 : World} {a : Act} {w : World} (hr : w0.heap.size ≤ r) (h : Hold 28 [(0, .sat (nR 0 (some r2) F0)), (4, .sat (zC r r2)), (5, .sat (rC 0 r2 p1 l1)), (990, .sat (gP 0 (some r2)))] w0 a w)
    (hQ : ∀ a' w', Hold 28 [(0, .sat (nR 0 (some r2) F0)), (4, .sat (zC r r2)), (5, .sat (rC 0 r2 p1 l1)), (990, .sat (gP 0 (some r2))), (6, .val (.int .i64 (((Tm.len F0 : Nat) : Int) - 1)))] w0 a' w' → Q .normal a' w') : (Code.region 4 rList34Ops false).wp Try.prog Q a w := by
  refine region_seq (w0 := w) 4 (by kernel_rfl) ?_
  rw [show List.range 4 = [0, 1, 2, 3] from rfl]
  refine env_one (i := 0) (d := 12) (k := .sat (nR 0 (some r2) F0)) (step_move (by kernel_rfl) (Opd.of_base 0 rfl) rfl) (by kernel_rfl) (by decide) h ?_
  clear h
  intro a w h
  refine env_one (i := 1) (d := 13) (k := .val (.int .i64 ((Tm.len F0 : Nat) : Int))) (step_len_row (by kernel_rfl) (Opd.ofR (Opd.of_base 12 rfl)) rfl) (by kernel_rfl) (by decide) h ?_
  clear h
  intro a w h
  refine env_one (i := 2) (d := 14) (k := .val (.int .i64 (((Tm.len F0 : Nat) : Int) - 1))) (step_sub (m := ((Tm.len F0 : Nat) : Int)) (n := 1) (s := (((Tm.len F0 : Nat) : Int) - 1)) (by kernel_rfl) (Opd.of_base 13 rfl) (Opd.const _) (by rw [IntKind.wrap_i64]; omega) rfl) (by kernel_rfl) (by decide) h ?_
  clear h
  intro a w h
  refine env_one (i := 3) (d := 6) (k := .val (.int .i64 (((Tm.len F0 : Nat) : Int) - 1))) (step_assign (by kernel_rfl) (Opd.of_base 14 rfl) rfl) (by kernel_rfl) (by decide) h ?_
  clear h
  intro a w h
  exact hQ a w (h.keep [0, 4, 5, 990, 6])
theorem rList35a_region {Q : Exit → Act → World → Prop} (F0 : Fo) (p1 : Pay) (l1 : Fo) (r2 : Nat) (jj : Nat) (k : Nat) (q : Pay) (m r' : Fo) (nb r : Nat)  {w0 : World} {a : Act} {w : World} (hr : w0.heap.size ≤ r) (h : Hold 28 [(0, .sat (nR 0 (some r2) F0)), (4, .sat (zC r r2)), (5, .sat (rC 0 r2 ((Bl.lastT F0 p1 l1 jj).1) ((Bl.lastT F0 p1 l1 jj).2))), (6, .val (.int .i64 ((k : Nat) : Int))), (990, .sat (gP 0 (some r2)))] w0 a w)
    (hQ : ∀ a' w', Hold 28 [(0, .sat (nR 0 (some r2) F0)), (4, .sat (zC r r2)), (5, .sat (rC 0 r2 ((Bl.lastT F0 p1 l1 jj).1) ((Bl.lastT F0 p1 l1 jj).2))), (6, .val (.int .i64 ((k : Nat) : Int))), (990, .sat (gP 0 (some r2))), (16, .val (.bool true))] w0 a' w' → Q .normal a' w') : (Code.region 5 rList35Ops false).wp Try.prog Q a w := by
  refine region_seq (w0 := w) 2 (by kernel_rfl) ?_
  rw [show List.range 2 = [0, 1] from rfl]
  refine env_one (i := 0) (d := 15) (k := .val (.int .i64 ((k : Nat) : Int))) (step_move (by kernel_rfl) (Opd.of_base 6 rfl) rfl) (by kernel_rfl) (by decide) h ?_
  clear h
  intro a w h
  refine env_one (i := 1) (d := 16) (k := .val (.bool true)) (step_ge_int (m := ((k : Nat) : Int)) (n := 0) (by kernel_rfl) (Opd.of_base 15 rfl) (Opd.const _) (decide_eq_true (by omega)) rfl) (by kernel_rfl) (by decide) h ?_
  clear h
  intro a w h
  exact hQ a w (h.keep [0, 4, 5, 6, 990, 16])
def rList37aEs (F0 : Fo) (p1 : Pay) (l1 : Fo) (r2 : Nat) (jj : Nat) (k : Nat) (q : Pay) (m r' : Fo) (nb r : Nat) : List Kd := [
  .sat (nR 0 (some r2) F0),
  .val (.int .i64 ((k : Nat) : Int)),
  .sat (nP 0 (some r2) q m),
  .sat (nT 0 (some r2) q m),
  .sat (nT 0 (some r2) ((Bl.lastT F0 p1 l1 jj).1) ((Bl.lastT F0 p1 l1 jj).2)),
  .sat (nK 0 (some r2) (.node q m (.node ((Bl.lastT F0 p1 l1 jj).1) ((Bl.lastT F0 p1 l1 jj).2) .nil))),
  .sat (nT 0 (some r2) (3, 0, ⟨#[46]⟩) (.node q m (.node ((Bl.lastT F0 p1 l1 jj).1) ((Bl.lastT F0 p1 l1 jj).2) .nil)))]
def rList37aDs : List Nat := [19, 20, 21, 22, 23, 24, 25]
def rList37aEnv (F0 : Fo) (p1 : Pay) (l1 : Fo) (r2 : Nat) (jj : Nat) (k : Nat) (q : Pay) (m r' : Fo) (nb r : Nat) : Env := [(0, .sat (nR 0 (some r2) F0)), (4, .sat (zC r r2)), (5, .sat (rC 0 r2 ((Bl.lastT F0 p1 l1 jj).1) ((Bl.lastT F0 p1 l1 jj).2))), (6, .val (.int .i64 ((k : Nat) : Int))), (990, .sat (gP 0 (some r2)))]
theorem rList37a_0 {Q : Exit → Act → World → Prop} (F0 : Fo) (p1 : Pay) (l1 : Fo) (r2 : Nat) (jj : Nat) (k : Nat) (q : Pay) (m r' : Fo) (nb r : Nat) (hd : Tm.dropF F0 k = .node q m r') : RStep (strip rList37Ops) Q (fun i => ((rList37aEs F0 p1 l1 r2 jj k q m r' nb r)[i]?).getD .any) (fun i => (rList37aDs[i]?).getD (1000 + i)) (look (rList37aEnv F0 p1 l1 r2 jj k q m r' nb r)) 28 0 := fun _ => step_move (by kernel_rfl) (Opd.of_base 0 rfl) rfl
theorem rList37a_1 {Q : Exit → Act → World → Prop} (F0 : Fo) (p1 : Pay) (l1 : Fo) (r2 : Nat) (jj : Nat) (k : Nat) (q : Pay) (m r' : Fo) (nb r : Nat) (hd : Tm.dropF F0 k = .node q m r') : RStep (strip rList37Ops) Q (fun i => ((rList37aEs F0 p1 l1 r2 jj k q m r' nb r)[i]?).getD .any) (fun i => (rList37aDs[i]?).getD (1000 + i)) (look (rList37aEnv F0 p1 l1 r2 jj k q m r' nb r)) 28 1 := fun _ => step_move (by kernel_rfl) (Opd.of_base 6 rfl) rfl
theorem rList37a_2 {Q : Exit → Act → World → Prop} (F0 : Fo) (p1 : Pay) (l1 : Fo) (r2 : Nat) (jj : Nat) (k : Nat) (q : Pay) (m r' : Fo) (nb r : Nat) (hd : Tm.dropF F0 k = .node q m r') : RStep (strip rList37Ops) Q (fun i => ((rList37aEs F0 p1 l1 r2 jj k q m r' nb r)[i]?).getD .any) (fun i => (rList37aDs[i]?).getD (1000 + i)) (look (rList37aEnv F0 p1 l1 r2 jj k q m r' nb r)) 28 2 := fun _ => step_nindex (k := k) (r := r') (by kernel_rfl) (Opd.dep 0 rfl rfl (by kernel_rfl)) (Opd.dep 1 rfl rfl (by kernel_rfl)) hd rfl
theorem rList37a_3 {Q : Exit → Act → World → Prop} (F0 : Fo) (p1 : Pay) (l1 : Fo) (r2 : Nat) (jj : Nat) (k : Nat) (q : Pay) (m r' : Fo) (nb r : Nat) (hd : Tm.dropF F0 k = .node q m r') : RStep (strip rList37Ops) Q (fun i => ((rList37aEs F0 p1 l1 r2 jj k q m r' nb r)[i]?).getD .any) (fun i => (rList37aDs[i]?).getD (1000 + i)) (look (rList37aEnv F0 p1 l1 r2 jj k q m r' nb r)) 28 3 := fun _ => step_nload (by kernel_rfl) (Opd.dep 2 rfl rfl (by kernel_rfl)) rfl
theorem rList37a_4 {Q : Exit → Act → World → Prop} (F0 : Fo) (p1 : Pay) (l1 : Fo) (r2 : Nat) (jj : Nat) (k : Nat) (q : Pay) (m r' : Fo) (nb r : Nat) (hd : Tm.dropF F0 k = .node q m r') : RStep (strip rList37Ops) Q (fun i => ((rList37aEs F0 p1 l1 r2 jj k q m r' nb r)[i]?).getD .any) (fun i => (rList37aDs[i]?).getD (1000 + i)) (look (rList37aEnv F0 p1 l1 r2 jj k q m r' nb r)) 28 4 := fun _ => step_cload (by kernel_rfl) (Opd.of_base 5 rfl) rfl
theorem rList37a_5 {Q : Exit → Act → World → Prop} (F0 : Fo) (p1 : Pay) (l1 : Fo) (r2 : Nat) (jj : Nat) (k : Nat) (q : Pay) (m r' : Fo) (nb r : Nat) (hd : Tm.dropF F0 k = .node q m r') : RStep (strip rList37Ops) Q (fun i => ((rList37aEs F0 p1 l1 r2 jj k q m r' nb r)[i]?).getD .any) (fun i => (rList37aDs[i]?).getD (1000 + i)) (look (rList37aEnv F0 p1 l1 r2 jj k q m r' nb r)) 28 5 := fun _ => step_nslice2 (g := 990) (by kernel_rfl) (Opd.dep 3 rfl rfl (by kernel_rfl)) (Opd.dep 4 rfl rfl (by kernel_rfl)) (Opd.gp0 (Opd.of_base 990 rfl)) rfl
theorem rList37a_6 {Q : Exit → Act → World → Prop} (F0 : Fo) (p1 : Pay) (l1 : Fo) (r2 : Nat) (jj : Nat) (k : Nat) (q : Pay) (m r' : Fo) (nb r : Nat) (hd : Tm.dropF F0 k = .node q m r') : RStep (strip rList37Ops) Q (fun i => ((rList37aEs F0 p1 l1 r2 jj k q m r' nb r)[i]?).getD .any) (fun i => (rList37aDs[i]?).getD (1000 + i)) (look (rList37aEnv F0 p1 l1 r2 jj k q m r' nb r)) 28 6 := fun _ => step_nbuild3 (by kernel_rfl) (Opd.const _) (Opd.ofK (Opd.dep 5 rfl rfl (by kernel_rfl))) rfl
theorem rList37a_region {Q : Exit → Act → World → Prop} (F0 : Fo) (p1 : Pay) (l1 : Fo) (r2 : Nat) (jj : Nat) (k : Nat) (q : Pay) (m r' : Fo) (nb r : Nat) (hd : Tm.dropF F0 k = .node q m r') {w0 : World} {a : Act} {w : World} (hr2 : w0.heap.size ≤ r2) (hr : w0.heap.size ≤ r) (h : Hold 28 [(0, .sat (nR 0 (some r2) F0)), (4, .sat (zC r r2)), (5, .sat (rC 0 r2 ((Bl.lastT F0 p1 l1 jj).1) ((Bl.lastT F0 p1 l1 jj).2))), (6, .val (.int .i64 ((k : Nat) : Int))), (990, .sat (gP 0 (some r2)))] w0 a w)
    (hQ : ∀ a' w', Hold 28 [(0, .sat (nR 0 (some r2) F0)), (4, .sat (zC r r2)), (6, .val (.int .i64 ((k : Nat) : Int))), (990, .sat (gP 0 (some r2))), (5, .sat (rC 0 r2 (3, 0, ⟨#[46]⟩) (.node q m (.node ((Bl.lastT F0 p1 l1 jj).1) ((Bl.lastT F0 p1 l1 jj).2) .nil))))] w0 a' w' → Q .normal a' w') : (Code.region 7 rList37Ops true).wp Try.prog Q a w := by
  have hall : ∀ i, i < 0 → RStep (strip rList37Ops) Q (fun i => ((rList37aEs F0 p1 l1 r2 jj k q m r' nb r)[i]?).getD .any) (fun i => (rList37aDs[i]?).getD (1000 + i)) (look (rList37aEnv F0 p1 l1 r2 jj k q m r' nb r)) 28 i := fun i hi => absurd hi (by omega)
  have hall := below_succ hall (rList37a_0 F0 p1 l1 r2 jj k q m r' nb r hd)
  have hall := below_succ hall (rList37a_1 F0 p1 l1 r2 jj k q m r' nb r hd)
  have hall := below_succ hall (rList37a_2 F0 p1 l1 r2 jj k q m r' nb r hd)
  have hall := below_succ hall (rList37a_3 F0 p1 l1 r2 jj k q m r' nb r hd)
  have hall := below_succ hall (rList37a_4 F0 p1 l1 r2 jj k q m r' nb r hd)
  have hall := below_succ hall (rList37a_5 F0 p1 l1 r2 jj k q m r' nb r hd)
  have hall := below_succ hall (rList37a_6 F0 p1 l1 r2 jj k q m r' nb r hd)
  refine env_then (m := 7) (n := 8) rList37aDs (rList37aEs F0 p1 l1 r2 jj k q m r' nb r) rfl (by kernel_rfl) (by decide) (by kernel_rfl) (of_decide_eq_true (by kernel_rfl)) (by kernel_rfl) (by kernel_rfl) (fun i_ hi_ => hall i_ hi_) h fun a w h => ?_
  clear hall
  have h := h.keep [0, 4, 5, 6, 990, 19, 20, 21, 22, 23, 24, 25]
  show wpOps Try.prog _ Q [7] a w
  refine env_store (i := 7) (x := 5) (y := 25) (r := r2) [(0, .sat (nR 0 (some r2) F0)), (4, .sat (zC r r2)), (6, .val (.int .i64 ((k : Nat) : Int))), (990, .sat (gP 0 (some r2))), (19, .sat (nR 0 (some r2) F0)), (20, .val (.int .i64 ((k : Nat) : Int))), (21, .sat (nP 0 (some r2) q m)), (22, .sat (nT 0 (some r2) q m)), (23, .sat (nT 0 (some r2) ((Bl.lastT F0 p1 l1 jj).1) ((Bl.lastT F0 p1 l1 jj).2))), (24, .sat (nK 0 (some r2) (.node q m (.node ((Bl.lastT F0 p1 l1 jj).1) ((Bl.lastT F0 p1 l1 jj).2) .nil)))), (25, .sat (nT 0 (some r2) (3, 0, ⟨#[46]⟩) (.node q m (.node ((Bl.lastT F0 p1 l1 jj).1) ((Bl.lastT F0 p1 l1 jj).2) .nil))))] (by kernel_rfl) rfl rfl hr2 (stays_cons 0 rfl (away_nR _ _ _) (stays_cons 4 rfl (away_zC _ _) (stays_cons 6 rfl (away_val _ _) (stays_cons 990 rfl (away_gP _ _ _) (stays_cons 19 rfl (away_nR _ _ _) (stays_cons 20 rfl (away_val _ _) (stays_cons 21 rfl (away_nP _ _ _ _) (stays_cons 22 rfl (away_nT _ _ _ _) (stays_cons 23 rfl (away_nT _ _ _ _) (stays_cons 24 rfl (away_nK _ _ _) (stays_cons 25 rfl (away_nT _ _ _ _) (stays_nil _ _)))))))))))) h ?_
  clear h
  intro a w h
  exact hQ a w (h.keep [0, 4, 6, 990, 5])
theorem rList36a_region {Q : Exit → Act → World → Prop} (F0 : Fo) (p1 : Pay) (l1 : Fo) (r2 : Nat) (jj : Nat) (k : Nat) (q : Pay) (m r' : Fo) (nb r : Nat) (hk : k + jj + 1 = Tm.len F0) (hb : ¬ (2000 : Int) < ((Tm.len F0 : Nat) : Int)) {w0 : World} {a : Act} {w : World} (hr : w0.heap.size ≤ r) (h : Hold 28 [(0, .sat (nR 0 (some r2) F0)), (4, .sat (zC r r2)), (6, .val (.int .i64 ((k : Nat) : Int))), (990, .sat (gP 0 (some r2))), (5, .sat (rC 0 r2 ((Bl.lastT F0 p1 l1 (jj + 1)).1) ((Bl.lastT F0 p1 l1 (jj + 1)).2)))] w0 a w)
    (hQ : ∀ a' w', Hold 28 [(0, .sat (nR 0 (some r2) F0)), (4, .sat (zC r r2)), (6, .val (.int .i64 (((k : Nat) : Int) - 1))), (990, .sat (gP 0 (some r2))), (5, .sat (rC 0 r2 ((Bl.lastT F0 p1 l1 (jj + 1)).1) ((Bl.lastT F0 p1 l1 (jj + 1)).2)))] w0 a' w' → Q .normal a' w') : (Code.region 6 rList36Ops false).wp Try.prog Q a w := by
  refine region_seq (w0 := w) 3 (by kernel_rfl) ?_
  rw [show List.range 3 = [0, 1, 2] from rfl]
  refine env_one (i := 0) (d := 17) (k := .val (.int .i64 ((k : Nat) : Int))) (step_move (by kernel_rfl) (Opd.of_base 6 rfl) rfl) (by kernel_rfl) (by decide) h ?_
  clear h
  intro a w h
  refine env_one (i := 1) (d := 18) (k := .val (.int .i64 (((k : Nat) : Int) - 1))) (step_sub (m := ((k : Nat) : Int)) (n := 1) (s := (((k : Nat) : Int) - 1)) (by kernel_rfl) (Opd.of_base 17 rfl) (Opd.const _) (by rw [IntKind.wrap_i64]; omega) rfl) (by kernel_rfl) (by decide) h ?_
  clear h
  intro a w h
  refine env_one (i := 2) (d := 6) (k := .val (.int .i64 (((k : Nat) : Int) - 1))) (step_assign (by kernel_rfl) (Opd.of_base 18 rfl) rfl) (by kernel_rfl) (by decide) h ?_
  clear h
  intro a w h
  exact hQ a w (h.keep [0, 4, 6, 990, 5])
theorem rList35b_region {Q : Exit → Act → World → Prop} (F0 : Fo) (p1 : Pay) (l1 : Fo) (r2 : Nat) (nb r : Nat)  {w0 : World} {a : Act} {w : World} (hr : w0.heap.size ≤ r) (h : Hold 28 [(0, .sat (nR 0 (some r2) F0)), (4, .sat (zC r r2)), (5, .sat (rC 0 r2 ((Bl.lastT F0 p1 l1 (Tm.len F0)).1) ((Bl.lastT F0 p1 l1 (Tm.len F0)).2))), (6, .val (.int .i64 (-1))), (990, .sat (gP 0 (some r2)))] w0 a w)
    (hQ : ∀ a' w', Hold 28 [(0, .sat (nR 0 (some r2) F0)), (4, .sat (zC r r2)), (5, .sat (rC 0 r2 ((Bl.lastT F0 p1 l1 (Tm.len F0)).1) ((Bl.lastT F0 p1 l1 (Tm.len F0)).2))), (6, .val (.int .i64 (-1))), (990, .sat (gP 0 (some r2))), (16, .val (.bool false))] w0 a' w' → Q .normal a' w') : (Code.region 5 rList35Ops false).wp Try.prog Q a w := by
  refine region_seq (w0 := w) 2 (by kernel_rfl) ?_
  rw [show List.range 2 = [0, 1] from rfl]
  refine env_one (i := 0) (d := 15) (k := .val (.int .i64 (-1))) (step_move (by kernel_rfl) (Opd.of_base 6 rfl) rfl) (by kernel_rfl) (by decide) h ?_
  clear h
  intro a w h
  refine env_one (i := 1) (d := 16) (k := .val (.bool false)) (step_ge_int (m := (-1)) (n := 0) (by kernel_rfl) (Opd.of_base 15 rfl) (Opd.const _) (by decide) rfl) (by kernel_rfl) (by decide) h ?_
  clear h
  intro a w h
  exact hQ a w (h.keep [0, 4, 5, 6, 990, 16])
theorem rList38_region {Q : Exit → Act → World → Prop} (F0 : Fo) (p1 : Pay) (l1 : Fo) (nb r r2 : Nat) {w0 : World} {a : Act} {w : World} (hr : w0.heap.size ≤ r) (h : Hold 28 [(4, .sat (zC r r2)), (5, .sat (rC 0 r2 ((Bl.lastT F0 p1 l1 (Tm.len F0)).1) ((Bl.lastT F0 p1 l1 (Tm.len F0)).2))), (990, .sat (gP 0 (some r2)))] w0 a w)
    (hQ : ∀ a' w', Hold 28 [(4, .sat (rC (r + 1) r ((Tm.cloneOf (Bl.lastT F0 p1 l1 (Tm.len F0)).1 (Bl.lastT F0 p1 l1 (Tm.len F0)).2).1) ((Tm.cloneOf (Bl.lastT F0 p1 l1 (Tm.len F0)).1 (Bl.lastT F0 p1 l1 (Tm.len F0)).2).2)))] w0 a' w' → Q .normal a' w') : (Code.region 8 rList38Ops false).wp Try.prog Q a w := by
  have h : Hold 28 [(4, .sat (zC r r2)), (5, .sat (rC 0 r2 ((Bl.lastT F0 p1 l1 (Tm.len F0)).1) ((Bl.lastT F0 p1 l1 (Tm.len F0)).2))), (990, .sat (gP (r + 1) (some r2)))] w0 a w := ⟨h.size, h.defers, h.world, slots_cons 4 (h.get 4 rfl) (slots_cons 5 (h.get 5 rfl) (slots_cons 990 ⟨(h.get 4 rfl).2.1, (h.get 990 rfl).2⟩ slots_nil))⟩
  refine region_seq (w0 := w) 3 (by kernel_rfl) ?_
  rw [show List.range 3 = [0, 1, 2] from rfl]
  refine env_one (i := 0) (d := 26) (k := .sat (nT 0 (some r2) (Bl.lastT F0 p1 l1 (Tm.len F0)).1 (Bl.lastT F0 p1 l1 (Tm.len F0)).2)) (step_cload (by kernel_rfl) (Opd.of_base 5 rfl) rfl) (by kernel_rfl) (by decide) h ?_
  clear h
  intro a w h
  refine env_one (i := 1) (d := 27) (k := .sat (nT (r + 1) (some r2) (Tm.cloneOf (Bl.lastT F0 p1 l1 (Tm.len F0)).1 (Bl.lastT F0 p1 l1 (Tm.len F0)).2).1 (Tm.cloneOf (Bl.lastT F0 p1 l1 (Tm.len F0)).1 (Bl.lastT F0 p1 l1 (Tm.len F0)).2).2)) (step_rvalidc (g := 990) (by kernel_rfl) (Opd.ofT (Opd.of_base 26 rfl)) (Opd.of_base 990 rfl) rfl) (by kernel_rfl) (by decide) h ?_
  clear h
  intro a w h
  refine env_storeZ (i := 2) (x := 4) (y := 27) (r := r) (r2 := r2) (by kernel_rfl) rfl rfl hr h ?_
  clear h
  intro a w h
  exact hQ a w h
set_option maxHeartbeats 1000000 in
theorem rList3_any (F0 : Fo) (A0 : Option Addr) (c0 : Nat) (p1 : Pay) (l1 : Fo) (A1 : Option Addr) (c1 : Nat) (B : Nat) (w : World) (hA0 : ArgsB w B A0 (Tm.len F0) F0) (hA1 : ArgsB w B A1 (Tm.len l1) l1) (hB : B ≤ w.heap.size)  : Calls Try.prog 57 #[Value.slice A0 (Tm.len F0) c0, tv p1 A1 (Tm.len l1) c1] w (Makes (Bl.mkList F0 p1 l1).1 (Bl.mkList F0 p1 l1).2 w) := by
  refine calls_of_wp Try.func57 rList3_body ?_
  obtain ⟨v0, hv0⟩ : ∃ v : Value, v = Value.slice A0 (Tm.len F0) c0 := ⟨_, rfl⟩
  obtain ⟨v1, hv1⟩ : ∃ v : Value, v = tv p1 A1 (Tm.len l1) c1 := ⟨_, rfl⟩
  rw [← hv0, ← hv1]
  have hk0 : (Kd.row F0).R v0 w := by rw [hv0]; exact ⟨A0, c0, rfl, hA0.up hB⟩
  have hk1 : (Kd.term p1 l1).R v1 w := by rw [hv1]; exact ⟨A1, c1, rfl, hA1.up hB⟩
  have hsN : (#[v0, v1] ++ Array.replicate (Try.f57.ntmps - #[v0, v1].size) undef : Array Value).size = 28 := by kernel_rfl
  have gs0 : (#[v0, v1] ++ Array.replicate (Try.f57.ntmps - #[v0, v1].size) undef : Array Value).getD 0 undef = v0 := by kernel_rfl
  have gs1 : (#[v0, v1] ++ Array.replicate (Try.f57.ntmps - #[v0, v1].size) undef : Array Value).getD 1 undef = v1 := by kernel_rfl
  generalize (#[v0, v1] ++ Array.replicate (Try.f57.ntmps - #[v0, v1].size) undef : Array Value) = tm at hsN gs0 gs1 ⊢
  obtain ⟨a, ha0⟩ : ∃ a : Act, a = ⟨tm, []⟩ := ⟨_, rfl⟩
  have h : Hold 28 [(0, .row F0), (1, .term p1 l1)] w ⟨tm, []⟩ w := ⟨hsN, rfl, Below.refl _ _, (slots_cons 0 (by rw [gs0]; exact hk0) (slots_cons 1 (by rw [gs1]; exact hk1) slots_nil))⟩
  obtain ⟨nb, hnb⟩ : ∃ nb, nb = w.heap.size := ⟨_, rfl⟩
  have hn : nb ≤ w.heap.size := by omega
  refine wp_seq ?_
  refine rList30a_region F0 p1 l1 nb  hn h ?_
  intro r a w1 hr h
  show Code.wp _ _ _ a w1
  refine wp_seq ?_
  refine wp_seq ?_
  by_cases hb : (2000 : Int) < ((Tm.len F0 : Nat) : Int)
  · refine rList31a_region F0 p1 l1 nb r hb hr h ?_
    intro a w1 h
    show Code.wp _ _ _ a w1
    refine env_cond (b := true) rfl h ?_
    have h := h.keep [0, 3, 4, 990]
    show Code.wp _ _ _ a w1
    refine wp_seq ?_
    refine rList32a_region F0 p1 l1 nb r  hr h ?_
    intro a w1 h
    show Code.wp _ _ _ a w1
    have ev : Bl.mkList F0 p1 l1 = (zp, .nil) := by unfold Bl.mkList; rw [if_pos hb]
    rw [ev]
    refine wp_ret ?_
    (try simp only [then_ret, block_ret])
    exact law_cell rfl (h.get 4 rfl) h.defers fun A c ha => ⟨A, c, rfl, ha.mono fun b hb => ⟨by have := hb.1; omega, hb.2.1⟩, h.world⟩
  · refine rList31b_region F0 p1 l1 nb r hb hr h ?_
    intro a w1 h
    show Code.wp _ _ _ a w1
    refine env_cond (b := false) rfl h ?_
    refine wp_skip ?_
    have h := h.keep [0, 3, 4, 990]
    show Code.wp _ _ _ a w1
    refine wp_seq ?_
    refine rList33_region F0 p1 l1 nb r h ?_
    intro a w1 h
    obtain ⟨r2, hr2, h⟩ := h
    show Code.wp _ _ _ a w1
    refine wp_seq ?_
    refine wp_seq ?_
    refine rList34a_region F0 p1 l1 r2 nb r hb hr h ?_
    intro a w1 h
    rw [show (((Tm.len F0 : Nat) : Int) - 1) = (((Tm.len F0 : Nat) : Int) - 1 - ((0 : Nat) : Int)) from by simp] at h
    show Code.wp _ _ _ a w1
    refine wp_block ?_
    have h := h.keep [0, 4, 5, 6, 990]
    refine wp_for (n := (Tm.len F0)) (fun jj a w1 => Hold 28 [(0, .sat (nR 0 (some r2) F0)), (4, .sat (zC r r2)), (5, .sat (rC 0 r2 ((Bl.lastT F0 p1 l1 jj).1) ((Bl.lastT F0 p1 l1 jj).2))), (6, .val (.int .i64 (((Tm.len F0 : Nat) : Int) - 1 - ((jj : Nat) : Int)))), (990, .sat (gP 0 (some r2)))] w a w1) h ?_ ?_
    · intro jj a w1 hi h
      refine wp_seq ?_
      refine wp_seq ?_
      obtain ⟨k, hk⟩ : ∃ k, k + jj + 1 = Tm.len F0 := ⟨Tm.len F0 - jj - 1, by omega⟩
      obtain ⟨q, m, r', hd⟩ := Tm.drop_at (F := F0) (k := k) (by omega)
      rw [show (((Tm.len F0 : Nat) : Int) - 1 - ((jj : Nat) : Int)) = ((k : Nat) : Int) from by omega] at h
      refine rList35a_region F0 p1 l1 r2 jj k q m r' nb r  hr h ?_
      intro a w1 h
      show Code.wp _ _ _ a w1
      refine env_cond (b := true) rfl h ?_
      refine wp_skip ?_
      have h := h.keep [0, 4, 5, 6, 990]
      show Code.wp _ _ _ a w1
      refine wp_seq ?_
      refine wp_block ?_
      refine rList37a_region F0 p1 l1 r2 jj k q m r' nb r hd hr2 hr h ?_
      intro a w1 h
      have h : Hold 28 [(0, .sat (nR 0 (some r2) F0)), (4, .sat (zC r r2)), (6, .val (.int .i64 ((k : Nat) : Int))), (990, .sat (gP 0 (some r2))), (5, .sat (rC 0 r2 ((Bl.lastT F0 p1 l1 (jj + 1)).1) ((Bl.lastT F0 p1 l1 (jj + 1)).2)))] w a w1 := by rw [Bl.lastT_succ hk hd]; exact h
      show Code.wp _ _ _ a w1
      refine rList36a_region F0 p1 l1 r2 jj k q m r' nb r hk hb hr h ?_
      intro a w1 h
      rw [show (((k : Nat) : Int) - 1) = (((Tm.len F0 : Nat) : Int) - 1 - (((jj + 1) : Nat) : Int)) from by omega] at h
      exact h.keep [0, 4, 5, 6, 990]
    · intro a w1 h
      refine wp_seq ?_
      refine wp_seq ?_
      rw [show (((Tm.len F0 : Nat) : Int) - 1 - (((Tm.len F0) : Nat) : Int)) = -1 from by omega] at h
      refine rList35b_region F0 p1 l1 r2 nb r  hr h ?_
      intro a w1 h
      show Code.wp _ _ _ a w1
      refine env_cond (b := false) rfl h ?_
      refine wp_exit ?_
      have h := h.keep [4, 5, 990]
      show Code.wp _ _ _ a w1
      refine wp_seq ?_
      refine rList38_region F0 p1 l1 nb r r2 hr h ?_
      intro a w1 h
      show Code.wp _ _ _ a w1
      have ev : Bl.mkList F0 p1 l1 = Tm.cloneOf (Bl.lastT F0 p1 l1 (Tm.len F0)).1 (Bl.lastT F0 p1 l1 (Tm.len F0)).2 := by unfold Bl.mkList; rw [if_neg hb]
      rw [ev]
      refine wp_ret ?_
      (try simp only [then_ret, block_ret])
      exact law_cell rfl (h.get 4 rfl) h.defers fun A c ha => ⟨A, c, rfl, ha.mono fun b hb => ⟨by have := hb.1; omega, hb.2.1⟩, h.world⟩
section
variable {ops : Array Oper} {Q : Exit → Act → World → Prop} {E : Nat → Kd} {D : Nat → Nat} {base : Nat → Option Kd} {N : Nat}
theorem step_rList3 {i : Nat} {n g : Nat} {G : Option Nat} {x0 x1 : Operand} {F0 : Fo} {p1 : Pay} {l1 : Fo} (hop : (ops[i]?).map (·.op) = some (.call { callee := .value (.func 57), args := #[x0, x1], argTypes := #[22, 24] })) (h0 : Opd ops E D base N i x0 (.row F0)) (h1 : Opd ops E D base N i x1 (.term p1 l1)) (hg : Opd ops E D base N i (.tmp g) (.sat (gP n G))) (hE : E i = .sat (nT n G (Bl.mkList F0 p1 l1).1 (Bl.mkList F0 p1 l1).2)) : Step Try.prog ops Q E D base N i :=
  step_mk hop (fun _ _ => by kernel_rfl) hg (fun a w h => by
    obtain ⟨A0, c0, e0, ha0⟩ := h0 a w h
    obtain ⟨A1, c1, e1, ha1⟩ := h1 a w h
    rw [show (#[x0, x1] : Array Operand).map a.eval = #[.slice A0 (Tm.len F0) c0, tv p1 A1 (Tm.len l1) c1] by rw [← e0, ← e1]; simp]
    exact rList3_any F0 A0 c0 p1 l1 A1 c1 w.heap.size w ha0 ha1 (Nat.le_refl _)) hE
end
end Go.Proofs.Ytapcnehpechkpaa
