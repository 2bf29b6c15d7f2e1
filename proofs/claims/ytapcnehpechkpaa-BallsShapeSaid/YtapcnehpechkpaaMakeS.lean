/-
  Package balls: five makers, whose blocks can all be written.
-/
import Derived.Test.YtapcnehpechkpaaMake6
import Derived.Test.YtapcnehpechkpaaErrS
namespace Go.Proofs.Ytapcnehpechkpaa
set_option linter.unusedVariables false
set_option linter.unusedSimpArgs false
set_option maxRecDepth 100000
open Go.RowKit
/-- A term in blocks from n on that can be written, other than G's. -/
abbrev NsS (n : Nat) (G : Option Nat) (w : World) (b : Nat) : Prop := Ns n G w b ∧ SoftB w b
def nS (n : Nat) (G : Option Nat) (p : Pay) (l : Fo) : Pd where
  R := fun v w => ∃ A c, v = tv p A (Tm.len l) c ∧ ArgsIn (NsS n G w) w A (Tm.len l) l
  keep := by
    rintro v w w' ⟨A, c, e, h⟩ hb
    exact ⟨A, c, e, (h.keep fun b hb' => hb.block b hb'.1.2.1).mono fun b hb' => ⟨⟨hb'.1.1, Nat.lt_of_lt_of_le hb'.1.2.1 hb.size, hb'.1.2.2⟩, hb'.2.same (hb.block b hb'.1.2.1)⟩⟩
/-- The result's cell, with such a term in it. -/
def rS (n r : Nat) (p : Pay) (l : Fo) : Pd where
  R := fun v w => v = .pointer (some ⟨r, 0, none⟩) ∧ r < w.heap.size ∧ ∃ A c, TermAt w r p A (Tm.len l) c ∧ ArgsIn (NsS n (some r) w) w A (Tm.len l) l
  keep := by
    rintro v w w' ⟨e, hr, A, c, ht, h⟩ hb
    exact ⟨e, Nat.lt_of_lt_of_le hr hb.size, A, c, ht.same (hb.block _ hr), (h.keep fun b hb' => hb.block b hb'.1.2.1).mono fun b hb' => ⟨⟨hb'.1.1, Nat.lt_of_lt_of_le hb'.1.2.1 hb.size, hb'.1.2.2⟩, hb'.2.same (hb.block b hb'.1.2.1)⟩⟩
theorem law_cellS {fn : Func} {q : Tmp} {n r : Nat} {p : Pay} {l : Fo} (hres : fn.results = #[.cell q 24]) {R : Ending → World → Prop} {a : Act} {w : World} (hq : (Kd.sat (rS n r p l)).R (a.tmps.getD q undef) w) (hd : a.defers = []) (hR : ∀ A c, ArgsIn (NsS n (some r) w) w A (Tm.len l) l → R (.returned (tv p A (Tm.len l) c)) w) : bodyPost Try.prog fn R .ret a w := by
  obtain ⟨e, _, A, c, ht, ha⟩ := hq
  refine bodyPost_ret (v := tv p A (Tm.len l) c) ?_ hd (hR A c ha)
  have hp' : a.tmps[q]?.getD undef = .pointer (some ⟨r, 0, none⟩) := by simpa using e
  simp [results, hres, hp', asAddr, load_cellT w r p A (Tm.len l) c ht]
section
variable {ops : Array Oper} {Q : Exit → Act → World → Prop} {N : Nat} {env : Env} {w0 w : World} {a : Act}
theorem env_storeS {i x y n r : Nat} {p0 p : Pay} {l0 l : Fo} {rest : List Nat} (env' : Env) (hop : (ops[i]?).map (fun o => (o.op, o.dst, o.guard)) = some (.store 24 (.tmp x) (.tmp y), none, none))
    (hx : look env x = some (.sat (rC n r p0 l0))) (hy : look env y = some (.sat (nS n (some r) p l))) (hr : w0.heap.size ≤ r) (hs : Stays r env env') (st : Hold N env w0 a w)
    (h : ∀ a' w', Hold N ((x, .sat (rS n r p l)) :: env') w0 a' w' → wpOps Try.prog ops Q rest a' w') : wpOps Try.prog ops Q (i :: rest) a w := by
  obtain ⟨ex, hrw, hsoft, A0, c0, ht, _⟩ := st.slots _ _ hx
  obtain ⟨A, c, ey, ha⟩ := st.slots _ _ hy
  cases ho : ops[i]? with
  | none => rw [ho] at hop; cases hop
  | some o =>
  rw [ho] at hop
  have hop := Option.some.inj hop
  obtain ⟨dst, op, ty, pos, after, guard⟩ := o
  simp only [Prod.mk.injEq] at hop
  obtain ⟨e1, e2, e3⟩ := hop
  subst e1 e2 e3
  have hrun := run_store_at (a := a) (x := .tmp x) (y := .tmp y) (ty := ty) (pos := pos) (after := after) (guard := none) w r p A (Tm.len l) c ex ey ht.four hsoft
  have sd := stored w r p p0 A A0 (Tm.len l) c (Tm.len l0) c0 ht hsoft
  have hw : Wrote r w (set4 w r 0 p A (Tm.len l) c) := ⟨sd.size, fun b hb => sd.block b hb⟩
  simp only [wpOps, ho, wanted_free (o := ⟨none, .store 24 (.tmp x) (.tmp y), ty, pos, after, none⟩) rfl, if_true]
  refine .inl ?_
  unfold Oper.wp
  rw [hrun]
  refine h _ _ ⟨st.size, st.defers, sd.below _ _ st.world hr, fun t k hk => ?_⟩
  rw [look_cons] at hk
  by_cases e : x = t
  · subst e
    rw [if_pos (by simp)] at hk
    cases hk
    exact ⟨ex, by rw [sd.size]; exact hrw, A, c, sd.term, (ha.keep fun b hb => sd.block b (fun e => hb.1.2.2 (by rw [e]))).mono fun b hb => ⟨⟨hb.1.1, by rw [sd.size]; exact hb.1.2.1, hb.1.2.2⟩, hb.2.same (sd.block b (fun e => hb.1.2.2 (by rw [e])))⟩⟩
  · rw [if_neg (by simpa using e)] at hk
    obtain ⟨h1, h2⟩ := hs t k hk
    exact h2 _ _ _ hw (st.slots t k h1)
end
section
variable {ops : Array Oper} {Q : Exit → Act → World → Prop} {E : Nat → Kd} {D : Nat → Nat} {base : Nat → Option Kd} {N : Nat}
theorem step_errTS {i n g m1 : Nat} {G H1 : Option Nat} {x0 x1 : Operand} {s0 : ByteArray} {F1 : Fo} (hn : Tm.len F1 ≤ 100) (hop : (ops[i]?).map (·.op) = some (.call { callee := .value (.func 61), args := #[x0, x1], argTypes := #[9, 22] })) (h0 : Opd ops E D base N i x0 (.val (.string s0))) (h1 : Opd ops E D base N i x1 (.sat (nK m1 H1 F1))) (hg : Opd ops E D base N i (.tmp g) (.sat (gP n G))) (hE : E i = .sat (nS n G (Tm.errOf s0 F1).1 (Tm.errOf s0 F1).2)) : Step Try.prog ops Q E D base N i :=
  step_call hop (fun _ _ => by kernel_rfl) fun a w h => by
    have e0 : a.eval x0 = .string s0 := h0 a w h
    obtain ⟨A1, c1, e1, hcap1, ha1⟩ := h1 a w h
    rw [show (#[x0, x1] : Array Operand).map a.eval = #[.string s0, .slice A1 (Tm.len F1) c1] by rw [← e0, ← e1]; simp]
    exact (errorTermS_any s0 F1 A1 (Tm.len F1) c1 w.heap.size w ha1.low hn hcap1 (Nat.le_refl _)).mono fun e w' ⟨A, c, he, ha, hb⟩ => ⟨_, he, by rw [hE]; exact ⟨A, c, rfl, ha.mono fun b hb' => ⟨ns_new (hg a w h) hb'.1 hb'.2.1, hb'.2.2⟩⟩, hb⟩
end
noncomputable def sUn0Ops : Array Oper := ((Try.f13.body).bind (findReg 0)).getD #[]
noncomputable def sUn1Ops : Array Oper := ((Try.f13.body).bind (findReg 1)).getD #[]
theorem sUn_body : Try.f13.body = some (.seq (.region 0 sUn0Ops false) (.seq (.region 1 sUn1Ops false) .ret)) := by kernel_rfl
theorem sUn0a_region {Q : Exit → Act → World → Prop} (p0 : Pay) (l0 : Fo) (nb : Nat)  {w0 : World} {a : Act} {w : World} (hn : nb ≤ w0.heap.size) (h : Hold 6 [(0, .term p0 l0)] w0 a w)
    (hQ : ∀ r a' w', w0.heap.size ≤ r → Hold 6 [(1, .sat (nP 0 (some r) p0 l0)), (2, .sat (rC nb r zp .nil)), (990, .sat (gP nb (some r)))] w0 a' w' → Q .normal a' w') : (Code.region 0 sUn0Ops false).wp Try.prog Q a w := by
  refine region_seq (w0 := w) 2 (by kernel_rfl) ?_
  rw [show List.range 2 = [0, 1] from rfl]
  refine env_one (i := 0) (d := 1) (k := .ptrT p0 l0) (step_box (by kernel_rfl) (Opd.of_base 0 rfl) rfl) (by kernel_rfl) (by decide) h ?_
  clear h
  intro a w h
  refine env_res (i := 1) (d := 2) (n := nb) (fun r => [(0, .sat (nT 0 (some r) p0 l0)), (1, .sat (nP 0 (some r) p0 l0))]) (by kernel_rfl) (by decide) (by decide) hn (fun r => (goes_cons 0 rfl (turns_term _ _ _) (goes_cons 1 rfl (turns_ptr _ _ _) (goes_nil _ _)))) h ?_
  clear h
  intro r a w hr h
  exact hQ r a w hr (h.keep [1, 2, 990])
theorem sUn1a_region {Q : Exit → Act → World → Prop} (p0 : Pay) (l0 : Fo) (nb r : Nat)  {w0 : World} {a : Act} {w : World} (hr : w0.heap.size ≤ r) (h : Hold 6 [(1, .sat (nP 0 (some r) p0 l0)), (2, .sat (rC nb r zp .nil)), (990, .sat (gP nb (some r)))] w0 a w)
    (hQ : ∀ a' w', Hold 6 [(990, .sat (gP nb (some r))), (2, .sat (rS nb r ((Tm.errOf (⟨#[117, 110, 105, 110, 115, 116, 97, 110, 116, 105, 97, 116, 105, 111, 110, 95, 101, 114, 114, 111, 114]⟩) (.node p0 l0 .nil)).1) ((Tm.errOf (⟨#[117, 110, 105, 110, 115, 116, 97, 110, 116, 105, 97, 116, 105, 111, 110, 95, 101, 114, 114, 111, 114]⟩) (.node p0 l0 .nil)).2)))] w0 a' w' → Q .normal a' w') : (Code.region 1 sUn1Ops false).wp Try.prog Q a w := by
  refine region_seq (w0 := w) 4 (by kernel_rfl) ?_
  rw [show List.range 4 = [0, 1, 2, 3] from rfl]
  refine env_one (i := 0) (d := 3) (k := .sat (nT 0 (some r) p0 l0)) (step_nload (by kernel_rfl) (Opd.of_base 1 rfl) rfl) (by kernel_rfl) (by decide) h ?_
  clear h
  intro a w h
  refine env_one (i := 1) (d := 4) (k := .sat (nK 0 (some r) (.node p0 l0 .nil))) (step_nslice1 (g := 990) (by kernel_rfl) (Opd.of_base 3 rfl) (Opd.gp0 (Opd.of_base 990 rfl)) rfl) (by kernel_rfl) (by decide) h ?_
  clear h
  intro a w h
  refine env_one (i := 2) (d := 5) (k := .sat (nS nb (some r) ((Tm.errOf (⟨#[117, 110, 105, 110, 115, 116, 97, 110, 116, 105, 97, 116, 105, 111, 110, 95, 101, 114, 114, 111, 114]⟩) (.node p0 l0 .nil)).1) ((Tm.errOf (⟨#[117, 110, 105, 110, 115, 116, 97, 110, 116, 105, 97, 116, 105, 111, 110, 95, 101, 114, 114, 111, 114]⟩) (.node p0 l0 .nil)).2))) (step_errTS (Nat.le_of_ble_eq_true rfl) (g := 990) (by kernel_rfl) (Opd.const _) (Opd.of_base 4 rfl) (Opd.of_base 990 rfl) rfl) (by kernel_rfl) (by decide) h ?_
  clear h
  intro a w h
  refine env_storeS (i := 3) (x := 2) (y := 5) (r := r) [(1, .sat (nP 0 (some r) p0 l0)), (990, .sat (gP nb (some r))), (3, .sat (nT 0 (some r) p0 l0)), (4, .sat (nK 0 (some r) (.node p0 l0 .nil)))] (by kernel_rfl) rfl rfl hr (stays_cons 1 rfl (away_nP _ _ _ _) (stays_cons 990 rfl (away_gP _ _ _) (stays_cons 3 rfl (away_nT _ _ _ _) (stays_cons 4 rfl (away_nK _ _ _) (stays_nil _ _))))) h ?_
  clear h
  intro a w h
  exact hQ a w (h.keep [990, 2])
set_option maxHeartbeats 1000000 in
theorem sUn_any (p0 : Pay) (l0 : Fo) (A0 : Option Addr) (c0 : Nat) (B : Nat) (w : World) (hA0 : ArgsB w B A0 (Tm.len l0) l0) (hB : B ≤ w.heap.size)  : Calls Try.prog 13 #[tv p0 A0 (Tm.len l0) c0] w (MakesS (Bl.un p0 l0).1 (Bl.un p0 l0).2 w) := by
  refine calls_of_wp Try.func13 sUn_body ?_
  obtain ⟨v0, hv0⟩ : ∃ v : Value, v = tv p0 A0 (Tm.len l0) c0 := ⟨_, rfl⟩
  rw [← hv0]
  have hk0 : (Kd.term p0 l0).R v0 w := by rw [hv0]; exact ⟨A0, c0, rfl, hA0.up hB⟩
  have hsN : (#[v0] ++ Array.replicate (Try.f13.ntmps - #[v0].size) undef : Array Value).size = 6 := by kernel_rfl
  have gs0 : (#[v0] ++ Array.replicate (Try.f13.ntmps - #[v0].size) undef : Array Value).getD 0 undef = v0 := by kernel_rfl
  generalize (#[v0] ++ Array.replicate (Try.f13.ntmps - #[v0].size) undef : Array Value) = tm at hsN gs0 ⊢
  obtain ⟨a, ha0⟩ : ∃ a : Act, a = ⟨tm, []⟩ := ⟨_, rfl⟩
  have h : Hold 6 [(0, .term p0 l0)] w ⟨tm, []⟩ w := ⟨hsN, rfl, Below.refl _ _, (slots_cons 0 (by rw [gs0]; exact hk0) slots_nil)⟩
  obtain ⟨nb, hnb⟩ : ∃ nb, nb = w.heap.size := ⟨_, rfl⟩
  have hn : nb ≤ w.heap.size := by omega
  refine wp_seq ?_
  refine sUn0a_region p0 l0 nb  hn h ?_
  intro r a w1 hr h
  show Code.wp _ _ _ a w1
  refine wp_seq ?_
  refine sUn1a_region p0 l0 nb r  hr h ?_
  intro a w1 h
  show Code.wp _ _ _ a w1
  refine wp_ret ?_
  (try simp only [then_ret, block_ret])
  exact law_cellS rfl (h.get 2 rfl) h.defers fun A c ha => ⟨A, c, rfl, ha.mono fun b hb => ⟨by have := hb.1.1; omega, hb.1.2.1, hb.2⟩, h.world⟩
section
variable {ops : Array Oper} {Q : Exit → Act → World → Prop} {E : Nat → Kd} {D : Nat → Nat} {base : Nat → Option Kd} {N : Nat}
end
noncomputable def sTy0Ops : Array Oper := ((Try.f14.body).bind (findReg 0)).getD #[]
noncomputable def sTy1Ops : Array Oper := ((Try.f14.body).bind (findReg 1)).getD #[]
theorem sTy_body : Try.f14.body = some (.seq (.region 0 sTy0Ops false) (.seq (.region 1 sTy1Ops true) .ret)) := by kernel_rfl
theorem sTy0a_region {Q : Exit → Act → World → Prop} (s0 : ByteArray) (p1 : Pay) (l1 : Fo) (nb : Nat)  {w0 : World} {a : Act} {w : World} (hn : nb ≤ w0.heap.size) (h : Hold 10 [(0, .val (.string s0)), (1, .term p1 l1)] w0 a w)
    (hQ : ∀ r a' w', w0.heap.size ≤ r → Hold 10 [(0, .val (.string s0)), (3, .sat (nP 0 (some r) p1 l1)), (4, .sat (rC nb r zp .nil)), (990, .sat (gP nb (some r)))] w0 a' w' → Q .normal a' w') : (Code.region 0 sTy0Ops false).wp Try.prog Q a w := by
  refine region_seq (w0 := w) 2 (by kernel_rfl) ?_
  rw [show List.range 2 = [0, 1] from rfl]
  refine env_one (i := 0) (d := 3) (k := .ptrT p1 l1) (step_box (by kernel_rfl) (Opd.of_base 1 rfl) rfl) (by kernel_rfl) (by decide) h ?_
  clear h
  intro a w h
  refine env_res (i := 1) (d := 4) (n := nb) (fun r => [(0, .val (.string s0)), (1, .sat (nT 0 (some r) p1 l1)), (3, .sat (nP 0 (some r) p1 l1))]) (by kernel_rfl) (by decide) (by decide) hn (fun r => (goes_cons 0 rfl (turns_val _ _) (goes_cons 1 rfl (turns_term _ _ _) (goes_cons 3 rfl (turns_ptr _ _ _) (goes_nil _ _))))) h ?_
  clear h
  intro r a w hr h
  exact hQ r a w hr (h.keep [0, 3, 4, 990])
def sTy1aEs (s0 : ByteArray) (p1 : Pay) (l1 : Fo) (nb r : Nat) : List Kd := [
  .val (.string s0),
  .sat (nT nb (some r) (2, 0, s0) .nil),
  .sat (nT 0 (some r) p1 l1),
  .sat (nK 0 (some r) (.node (2, 0, s0) .nil (.node p1 l1 .nil))),
  .sat (nS nb (some r) ((Tm.errOf (⟨#[116, 121, 112, 101, 95, 101, 114, 114, 111, 114]⟩) (.node (2, 0, s0) .nil (.node p1 l1 .nil))).1) ((Tm.errOf (⟨#[116, 121, 112, 101, 95, 101, 114, 114, 111, 114]⟩) (.node (2, 0, s0) .nil (.node p1 l1 .nil))).2))]
def sTy1aDs : List Nat := [5, 6, 7, 8, 9]
def sTy1aEnv (s0 : ByteArray) (p1 : Pay) (l1 : Fo) (nb r : Nat) : Env := [(0, .val (.string s0)), (3, .sat (nP 0 (some r) p1 l1)), (4, .sat (rC nb r zp .nil)), (990, .sat (gP nb (some r)))]
theorem sTy1a_0 {Q : Exit → Act → World → Prop} (s0 : ByteArray) (p1 : Pay) (l1 : Fo) (nb r : Nat)  : RStep (strip sTy1Ops) Q (fun i => ((sTy1aEs s0 p1 l1 nb r)[i]?).getD .any) (fun i => (sTy1aDs[i]?).getD (1000 + i)) (look (sTy1aEnv s0 p1 l1 nb r)) 10 0 := fun _ => step_move (by kernel_rfl) (Opd.of_base 0 rfl) rfl
theorem sTy1a_1 {Q : Exit → Act → World → Prop} (s0 : ByteArray) (p1 : Pay) (l1 : Fo) (nb r : Nat)  : RStep (strip sTy1Ops) Q (fun i => ((sTy1aEs s0 p1 l1 nb r)[i]?).getD .any) (fun i => (sTy1aDs[i]?).getD (1000 + i)) (look (sTy1aEnv s0 p1 l1 nb r)) 10 1 := fun _ => step_atN (g := 990) (by kernel_rfl) (Opd.dep 0 rfl rfl (by kernel_rfl)) (Opd.of_base 990 rfl) rfl
theorem sTy1a_2 {Q : Exit → Act → World → Prop} (s0 : ByteArray) (p1 : Pay) (l1 : Fo) (nb r : Nat)  : RStep (strip sTy1Ops) Q (fun i => ((sTy1aEs s0 p1 l1 nb r)[i]?).getD .any) (fun i => (sTy1aDs[i]?).getD (1000 + i)) (look (sTy1aEnv s0 p1 l1 nb r)) 10 2 := fun _ => step_nload (by kernel_rfl) (Opd.of_base 3 rfl) rfl
theorem sTy1a_3 {Q : Exit → Act → World → Prop} (s0 : ByteArray) (p1 : Pay) (l1 : Fo) (nb r : Nat)  : RStep (strip sTy1Ops) Q (fun i => ((sTy1aEs s0 p1 l1 nb r)[i]?).getD .any) (fun i => (sTy1aDs[i]?).getD (1000 + i)) (look (sTy1aEnv s0 p1 l1 nb r)) 10 3 := fun _ => step_nslice2 (g := 990) (by kernel_rfl) (Opd.low (Opd.dep 1 rfl rfl (by kernel_rfl))) (Opd.dep 2 rfl rfl (by kernel_rfl)) (Opd.gp0 (Opd.of_base 990 rfl)) rfl
theorem sTy1a_4 {Q : Exit → Act → World → Prop} (s0 : ByteArray) (p1 : Pay) (l1 : Fo) (nb r : Nat)  : RStep (strip sTy1Ops) Q (fun i => ((sTy1aEs s0 p1 l1 nb r)[i]?).getD .any) (fun i => (sTy1aDs[i]?).getD (1000 + i)) (look (sTy1aEnv s0 p1 l1 nb r)) 10 4 := fun _ => step_errTS (Nat.le_of_ble_eq_true rfl) (g := 990) (by kernel_rfl) (Opd.const _) (Opd.dep 3 rfl rfl (by kernel_rfl)) (Opd.of_base 990 rfl) rfl
theorem sTy1a_region {Q : Exit → Act → World → Prop} (s0 : ByteArray) (p1 : Pay) (l1 : Fo) (nb r : Nat)  {w0 : World} {a : Act} {w : World} (hr : w0.heap.size ≤ r) (h : Hold 10 [(0, .val (.string s0)), (3, .sat (nP 0 (some r) p1 l1)), (4, .sat (rC nb r zp .nil)), (990, .sat (gP nb (some r)))] w0 a w)
    (hQ : ∀ a' w', Hold 10 [(990, .sat (gP nb (some r))), (4, .sat (rS nb r ((Tm.errOf (⟨#[116, 121, 112, 101, 95, 101, 114, 114, 111, 114]⟩) (.node (2, 0, s0) .nil (.node p1 l1 .nil))).1) ((Tm.errOf (⟨#[116, 121, 112, 101, 95, 101, 114, 114, 111, 114]⟩) (.node (2, 0, s0) .nil (.node p1 l1 .nil))).2)))] w0 a' w' → Q .normal a' w') : (Code.region 1 sTy1Ops true).wp Try.prog Q a w := by
  have hall : ∀ i, i < 0 → RStep (strip sTy1Ops) Q (fun i => ((sTy1aEs s0 p1 l1 nb r)[i]?).getD .any) (fun i => (sTy1aDs[i]?).getD (1000 + i)) (look (sTy1aEnv s0 p1 l1 nb r)) 10 i := fun i hi => absurd hi (by omega)
  have hall := below_succ hall (sTy1a_0 s0 p1 l1 nb r )
  have hall := below_succ hall (sTy1a_1 s0 p1 l1 nb r )
  have hall := below_succ hall (sTy1a_2 s0 p1 l1 nb r )
  have hall := below_succ hall (sTy1a_3 s0 p1 l1 nb r )
  have hall := below_succ hall (sTy1a_4 s0 p1 l1 nb r )
  refine env_then (m := 5) (n := 6) sTy1aDs (sTy1aEs s0 p1 l1 nb r) rfl (by kernel_rfl) (by decide) (by kernel_rfl) (of_decide_eq_true (by kernel_rfl)) (by kernel_rfl) (by kernel_rfl) (fun i_ hi_ => hall i_ hi_) h fun a w h => ?_
  clear hall
  have h := h.keep [0, 3, 4, 990, 5, 6, 7, 8, 9]
  show wpOps Try.prog _ Q [5] a w
  refine env_storeS (i := 5) (x := 4) (y := 9) (r := r) [(0, .val (.string s0)), (3, .sat (nP 0 (some r) p1 l1)), (990, .sat (gP nb (some r))), (5, .val (.string s0)), (6, .sat (nT nb (some r) (2, 0, s0) .nil)), (7, .sat (nT 0 (some r) p1 l1)), (8, .sat (nK 0 (some r) (.node (2, 0, s0) .nil (.node p1 l1 .nil))))] (by kernel_rfl) rfl rfl hr (stays_cons 0 rfl (away_val _ _) (stays_cons 3 rfl (away_nP _ _ _ _) (stays_cons 990 rfl (away_gP _ _ _) (stays_cons 5 rfl (away_val _ _) (stays_cons 6 rfl (away_nT _ _ _ _) (stays_cons 7 rfl (away_nT _ _ _ _) (stays_cons 8 rfl (away_nK _ _ _) (stays_nil _ _)))))))) h ?_
  clear h
  intro a w h
  exact hQ a w (h.keep [990, 4])
set_option maxHeartbeats 1000000 in
theorem sTy_any (s0 : ByteArray) (p1 : Pay) (l1 : Fo) (A1 : Option Addr) (c1 : Nat) (B : Nat) (w : World) (hA1 : ArgsB w B A1 (Tm.len l1) l1) (hB : B ≤ w.heap.size)  : Calls Try.prog 14 #[Value.string s0, tv p1 A1 (Tm.len l1) c1] w (MakesS (Bl.ty s0 p1 l1).1 (Bl.ty s0 p1 l1).2 w) := by
  refine calls_of_wp Try.func14 sTy_body ?_
  obtain ⟨v0, hv0⟩ : ∃ v : Value, v = Value.string s0 := ⟨_, rfl⟩
  obtain ⟨v1, hv1⟩ : ∃ v : Value, v = tv p1 A1 (Tm.len l1) c1 := ⟨_, rfl⟩
  rw [← hv0, ← hv1]
  have hk0 : (Kd.val (.string s0)).R v0 w := hv0
  have hk1 : (Kd.term p1 l1).R v1 w := by rw [hv1]; exact ⟨A1, c1, rfl, hA1.up hB⟩
  have hsN : (#[v0, v1] ++ Array.replicate (Try.f14.ntmps - #[v0, v1].size) undef : Array Value).size = 10 := by kernel_rfl
  have gs0 : (#[v0, v1] ++ Array.replicate (Try.f14.ntmps - #[v0, v1].size) undef : Array Value).getD 0 undef = v0 := by kernel_rfl
  have gs1 : (#[v0, v1] ++ Array.replicate (Try.f14.ntmps - #[v0, v1].size) undef : Array Value).getD 1 undef = v1 := by kernel_rfl
  generalize (#[v0, v1] ++ Array.replicate (Try.f14.ntmps - #[v0, v1].size) undef : Array Value) = tm at hsN gs0 gs1 ⊢
  obtain ⟨a, ha0⟩ : ∃ a : Act, a = ⟨tm, []⟩ := ⟨_, rfl⟩
  have h : Hold 10 [(0, .val (.string s0)), (1, .term p1 l1)] w ⟨tm, []⟩ w := ⟨hsN, rfl, Below.refl _ _, (slots_cons 0 (by rw [gs0]; exact hk0) (slots_cons 1 (by rw [gs1]; exact hk1) slots_nil))⟩
  obtain ⟨nb, hnb⟩ : ∃ nb, nb = w.heap.size := ⟨_, rfl⟩
  have hn : nb ≤ w.heap.size := by omega
  refine wp_seq ?_
  refine sTy0a_region s0 p1 l1 nb  hn h ?_
  intro r a w1 hr h
  show Code.wp _ _ _ a w1
  refine wp_seq ?_
  refine sTy1a_region s0 p1 l1 nb r  hr h ?_
  intro a w1 h
  show Code.wp _ _ _ a w1
  refine wp_ret ?_
  (try simp only [then_ret, block_ret])
  exact law_cellS rfl (h.get 4 rfl) h.defers fun A c ha => ⟨A, c, rfl, ha.mono fun b hb => ⟨by have := hb.1.1; omega, hb.1.2.1, hb.2⟩, h.world⟩
section
variable {ops : Array Oper} {Q : Exit → Act → World → Prop} {E : Nat → Kd} {D : Nat → Nat} {base : Nat → Option Kd} {N : Nat}
end
noncomputable def sDom0Ops : Array Oper := ((Try.f15.body).bind (findReg 0)).getD #[]
noncomputable def sDom1Ops : Array Oper := ((Try.f15.body).bind (findReg 1)).getD #[]
theorem sDom_body : Try.f15.body = some (.seq (.region 0 sDom0Ops false) (.seq (.region 1 sDom1Ops true) .ret)) := by kernel_rfl
theorem sDom0a_region {Q : Exit → Act → World → Prop} (s0 : ByteArray) (p1 : Pay) (l1 : Fo) (nb : Nat)  {w0 : World} {a : Act} {w : World} (hn : nb ≤ w0.heap.size) (h : Hold 10 [(0, .val (.string s0)), (1, .term p1 l1)] w0 a w)
    (hQ : ∀ r a' w', w0.heap.size ≤ r → Hold 10 [(0, .val (.string s0)), (3, .sat (nP 0 (some r) p1 l1)), (4, .sat (rC nb r zp .nil)), (990, .sat (gP nb (some r)))] w0 a' w' → Q .normal a' w') : (Code.region 0 sDom0Ops false).wp Try.prog Q a w := by
  refine region_seq (w0 := w) 2 (by kernel_rfl) ?_
  rw [show List.range 2 = [0, 1] from rfl]
  refine env_one (i := 0) (d := 3) (k := .ptrT p1 l1) (step_box (by kernel_rfl) (Opd.of_base 1 rfl) rfl) (by kernel_rfl) (by decide) h ?_
  clear h
  intro a w h
  refine env_res (i := 1) (d := 4) (n := nb) (fun r => [(0, .val (.string s0)), (1, .sat (nT 0 (some r) p1 l1)), (3, .sat (nP 0 (some r) p1 l1))]) (by kernel_rfl) (by decide) (by decide) hn (fun r => (goes_cons 0 rfl (turns_val _ _) (goes_cons 1 rfl (turns_term _ _ _) (goes_cons 3 rfl (turns_ptr _ _ _) (goes_nil _ _))))) h ?_
  clear h
  intro r a w hr h
  exact hQ r a w hr (h.keep [0, 3, 4, 990])
def sDom1aEs (s0 : ByteArray) (p1 : Pay) (l1 : Fo) (nb r : Nat) : List Kd := [
  .val (.string s0),
  .sat (nT nb (some r) (2, 0, s0) .nil),
  .sat (nT 0 (some r) p1 l1),
  .sat (nK 0 (some r) (.node (2, 0, s0) .nil (.node p1 l1 .nil))),
  .sat (nS nb (some r) ((Tm.errOf (⟨#[100, 111, 109, 97, 105, 110, 95, 101, 114, 114, 111, 114]⟩) (.node (2, 0, s0) .nil (.node p1 l1 .nil))).1) ((Tm.errOf (⟨#[100, 111, 109, 97, 105, 110, 95, 101, 114, 114, 111, 114]⟩) (.node (2, 0, s0) .nil (.node p1 l1 .nil))).2))]
def sDom1aDs : List Nat := [5, 6, 7, 8, 9]
def sDom1aEnv (s0 : ByteArray) (p1 : Pay) (l1 : Fo) (nb r : Nat) : Env := [(0, .val (.string s0)), (3, .sat (nP 0 (some r) p1 l1)), (4, .sat (rC nb r zp .nil)), (990, .sat (gP nb (some r)))]
theorem sDom1a_0 {Q : Exit → Act → World → Prop} (s0 : ByteArray) (p1 : Pay) (l1 : Fo) (nb r : Nat)  : RStep (strip sDom1Ops) Q (fun i => ((sDom1aEs s0 p1 l1 nb r)[i]?).getD .any) (fun i => (sDom1aDs[i]?).getD (1000 + i)) (look (sDom1aEnv s0 p1 l1 nb r)) 10 0 := fun _ => step_move (by kernel_rfl) (Opd.of_base 0 rfl) rfl
theorem sDom1a_1 {Q : Exit → Act → World → Prop} (s0 : ByteArray) (p1 : Pay) (l1 : Fo) (nb r : Nat)  : RStep (strip sDom1Ops) Q (fun i => ((sDom1aEs s0 p1 l1 nb r)[i]?).getD .any) (fun i => (sDom1aDs[i]?).getD (1000 + i)) (look (sDom1aEnv s0 p1 l1 nb r)) 10 1 := fun _ => step_atN (g := 990) (by kernel_rfl) (Opd.dep 0 rfl rfl (by kernel_rfl)) (Opd.of_base 990 rfl) rfl
theorem sDom1a_2 {Q : Exit → Act → World → Prop} (s0 : ByteArray) (p1 : Pay) (l1 : Fo) (nb r : Nat)  : RStep (strip sDom1Ops) Q (fun i => ((sDom1aEs s0 p1 l1 nb r)[i]?).getD .any) (fun i => (sDom1aDs[i]?).getD (1000 + i)) (look (sDom1aEnv s0 p1 l1 nb r)) 10 2 := fun _ => step_nload (by kernel_rfl) (Opd.of_base 3 rfl) rfl
theorem sDom1a_3 {Q : Exit → Act → World → Prop} (s0 : ByteArray) (p1 : Pay) (l1 : Fo) (nb r : Nat)  : RStep (strip sDom1Ops) Q (fun i => ((sDom1aEs s0 p1 l1 nb r)[i]?).getD .any) (fun i => (sDom1aDs[i]?).getD (1000 + i)) (look (sDom1aEnv s0 p1 l1 nb r)) 10 3 := fun _ => step_nslice2 (g := 990) (by kernel_rfl) (Opd.low (Opd.dep 1 rfl rfl (by kernel_rfl))) (Opd.dep 2 rfl rfl (by kernel_rfl)) (Opd.gp0 (Opd.of_base 990 rfl)) rfl
theorem sDom1a_4 {Q : Exit → Act → World → Prop} (s0 : ByteArray) (p1 : Pay) (l1 : Fo) (nb r : Nat)  : RStep (strip sDom1Ops) Q (fun i => ((sDom1aEs s0 p1 l1 nb r)[i]?).getD .any) (fun i => (sDom1aDs[i]?).getD (1000 + i)) (look (sDom1aEnv s0 p1 l1 nb r)) 10 4 := fun _ => step_errTS (Nat.le_of_ble_eq_true rfl) (g := 990) (by kernel_rfl) (Opd.const _) (Opd.dep 3 rfl rfl (by kernel_rfl)) (Opd.of_base 990 rfl) rfl
theorem sDom1a_region {Q : Exit → Act → World → Prop} (s0 : ByteArray) (p1 : Pay) (l1 : Fo) (nb r : Nat)  {w0 : World} {a : Act} {w : World} (hr : w0.heap.size ≤ r) (h : Hold 10 [(0, .val (.string s0)), (3, .sat (nP 0 (some r) p1 l1)), (4, .sat (rC nb r zp .nil)), (990, .sat (gP nb (some r)))] w0 a w)
    (hQ : ∀ a' w', Hold 10 [(990, .sat (gP nb (some r))), (4, .sat (rS nb r ((Tm.errOf (⟨#[100, 111, 109, 97, 105, 110, 95, 101, 114, 114, 111, 114]⟩) (.node (2, 0, s0) .nil (.node p1 l1 .nil))).1) ((Tm.errOf (⟨#[100, 111, 109, 97, 105, 110, 95, 101, 114, 114, 111, 114]⟩) (.node (2, 0, s0) .nil (.node p1 l1 .nil))).2)))] w0 a' w' → Q .normal a' w') : (Code.region 1 sDom1Ops true).wp Try.prog Q a w := by
  have hall : ∀ i, i < 0 → RStep (strip sDom1Ops) Q (fun i => ((sDom1aEs s0 p1 l1 nb r)[i]?).getD .any) (fun i => (sDom1aDs[i]?).getD (1000 + i)) (look (sDom1aEnv s0 p1 l1 nb r)) 10 i := fun i hi => absurd hi (by omega)
  have hall := below_succ hall (sDom1a_0 s0 p1 l1 nb r )
  have hall := below_succ hall (sDom1a_1 s0 p1 l1 nb r )
  have hall := below_succ hall (sDom1a_2 s0 p1 l1 nb r )
  have hall := below_succ hall (sDom1a_3 s0 p1 l1 nb r )
  have hall := below_succ hall (sDom1a_4 s0 p1 l1 nb r )
  refine env_then (m := 5) (n := 6) sDom1aDs (sDom1aEs s0 p1 l1 nb r) rfl (by kernel_rfl) (by decide) (by kernel_rfl) (of_decide_eq_true (by kernel_rfl)) (by kernel_rfl) (by kernel_rfl) (fun i_ hi_ => hall i_ hi_) h fun a w h => ?_
  clear hall
  have h := h.keep [0, 3, 4, 990, 5, 6, 7, 8, 9]
  show wpOps Try.prog _ Q [5] a w
  refine env_storeS (i := 5) (x := 4) (y := 9) (r := r) [(0, .val (.string s0)), (3, .sat (nP 0 (some r) p1 l1)), (990, .sat (gP nb (some r))), (5, .val (.string s0)), (6, .sat (nT nb (some r) (2, 0, s0) .nil)), (7, .sat (nT 0 (some r) p1 l1)), (8, .sat (nK 0 (some r) (.node (2, 0, s0) .nil (.node p1 l1 .nil))))] (by kernel_rfl) rfl rfl hr (stays_cons 0 rfl (away_val _ _) (stays_cons 3 rfl (away_nP _ _ _ _) (stays_cons 990 rfl (away_gP _ _ _) (stays_cons 5 rfl (away_val _ _) (stays_cons 6 rfl (away_nT _ _ _ _) (stays_cons 7 rfl (away_nT _ _ _ _) (stays_cons 8 rfl (away_nK _ _ _) (stays_nil _ _)))))))) h ?_
  clear h
  intro a w h
  exact hQ a w (h.keep [990, 4])
set_option maxHeartbeats 1000000 in
theorem sDom_any (s0 : ByteArray) (p1 : Pay) (l1 : Fo) (A1 : Option Addr) (c1 : Nat) (B : Nat) (w : World) (hA1 : ArgsB w B A1 (Tm.len l1) l1) (hB : B ≤ w.heap.size)  : Calls Try.prog 15 #[Value.string s0, tv p1 A1 (Tm.len l1) c1] w (MakesS (Bl.dom s0 p1 l1).1 (Bl.dom s0 p1 l1).2 w) := by
  refine calls_of_wp Try.func15 sDom_body ?_
  obtain ⟨v0, hv0⟩ : ∃ v : Value, v = Value.string s0 := ⟨_, rfl⟩
  obtain ⟨v1, hv1⟩ : ∃ v : Value, v = tv p1 A1 (Tm.len l1) c1 := ⟨_, rfl⟩
  rw [← hv0, ← hv1]
  have hk0 : (Kd.val (.string s0)).R v0 w := hv0
  have hk1 : (Kd.term p1 l1).R v1 w := by rw [hv1]; exact ⟨A1, c1, rfl, hA1.up hB⟩
  have hsN : (#[v0, v1] ++ Array.replicate (Try.f15.ntmps - #[v0, v1].size) undef : Array Value).size = 10 := by kernel_rfl
  have gs0 : (#[v0, v1] ++ Array.replicate (Try.f15.ntmps - #[v0, v1].size) undef : Array Value).getD 0 undef = v0 := by kernel_rfl
  have gs1 : (#[v0, v1] ++ Array.replicate (Try.f15.ntmps - #[v0, v1].size) undef : Array Value).getD 1 undef = v1 := by kernel_rfl
  generalize (#[v0, v1] ++ Array.replicate (Try.f15.ntmps - #[v0, v1].size) undef : Array Value) = tm at hsN gs0 gs1 ⊢
  obtain ⟨a, ha0⟩ : ∃ a : Act, a = ⟨tm, []⟩ := ⟨_, rfl⟩
  have h : Hold 10 [(0, .val (.string s0)), (1, .term p1 l1)] w ⟨tm, []⟩ w := ⟨hsN, rfl, Below.refl _ _, (slots_cons 0 (by rw [gs0]; exact hk0) (slots_cons 1 (by rw [gs1]; exact hk1) slots_nil))⟩
  obtain ⟨nb, hnb⟩ : ∃ nb, nb = w.heap.size := ⟨_, rfl⟩
  have hn : nb ≤ w.heap.size := by omega
  refine wp_seq ?_
  refine sDom0a_region s0 p1 l1 nb  hn h ?_
  intro r a w1 hr h
  show Code.wp _ _ _ a w1
  refine wp_seq ?_
  refine sDom1a_region s0 p1 l1 nb r  hr h ?_
  intro a w1 h
  show Code.wp _ _ _ a w1
  refine wp_ret ?_
  (try simp only [then_ret, block_ret])
  exact law_cellS rfl (h.get 4 rfl) h.defers fun A c ha => ⟨A, c, rfl, ha.mono fun b hb => ⟨by have := hb.1.1; omega, hb.1.2.1, hb.2⟩, h.world⟩
section
variable {ops : Array Oper} {Q : Exit → Act → World → Prop} {E : Nat → Kd} {D : Nat → Nat} {base : Nat → Option Kd} {N : Nat}
end
noncomputable def sExt0Ops : Array Oper := ((Try.f16.body).bind (findReg 0)).getD #[]
noncomputable def sExt1Ops : Array Oper := ((Try.f16.body).bind (findReg 1)).getD #[]
theorem sExt_body : Try.f16.body = some (.seq (.region 0 sExt0Ops false) (.seq (.region 1 sExt1Ops true) .ret)) := by kernel_rfl
theorem sExt0a_region {Q : Exit → Act → World → Prop} (s0 : ByteArray) (p1 : Pay) (l1 : Fo) (nb : Nat)  {w0 : World} {a : Act} {w : World} (hn : nb ≤ w0.heap.size) (h : Hold 10 [(0, .val (.string s0)), (1, .term p1 l1)] w0 a w)
    (hQ : ∀ r a' w', w0.heap.size ≤ r → Hold 10 [(0, .val (.string s0)), (3, .sat (nP 0 (some r) p1 l1)), (4, .sat (rC nb r zp .nil)), (990, .sat (gP nb (some r)))] w0 a' w' → Q .normal a' w') : (Code.region 0 sExt0Ops false).wp Try.prog Q a w := by
  refine region_seq (w0 := w) 2 (by kernel_rfl) ?_
  rw [show List.range 2 = [0, 1] from rfl]
  refine env_one (i := 0) (d := 3) (k := .ptrT p1 l1) (step_box (by kernel_rfl) (Opd.of_base 1 rfl) rfl) (by kernel_rfl) (by decide) h ?_
  clear h
  intro a w h
  refine env_res (i := 1) (d := 4) (n := nb) (fun r => [(0, .val (.string s0)), (1, .sat (nT 0 (some r) p1 l1)), (3, .sat (nP 0 (some r) p1 l1))]) (by kernel_rfl) (by decide) (by decide) hn (fun r => (goes_cons 0 rfl (turns_val _ _) (goes_cons 1 rfl (turns_term _ _ _) (goes_cons 3 rfl (turns_ptr _ _ _) (goes_nil _ _))))) h ?_
  clear h
  intro r a w hr h
  exact hQ r a w hr (h.keep [0, 3, 4, 990])
def sExt1aEs (s0 : ByteArray) (p1 : Pay) (l1 : Fo) (nb r : Nat) : List Kd := [
  .val (.string s0),
  .sat (nT nb (some r) (2, 0, s0) .nil),
  .sat (nT 0 (some r) p1 l1),
  .sat (nK 0 (some r) (.node (2, 0, s0) .nil (.node p1 l1 .nil))),
  .sat (nS nb (some r) ((Tm.errOf (⟨#[101, 120, 105, 115, 116, 101, 110, 99, 101, 95, 101, 114, 114, 111, 114]⟩) (.node (2, 0, s0) .nil (.node p1 l1 .nil))).1) ((Tm.errOf (⟨#[101, 120, 105, 115, 116, 101, 110, 99, 101, 95, 101, 114, 114, 111, 114]⟩) (.node (2, 0, s0) .nil (.node p1 l1 .nil))).2))]
def sExt1aDs : List Nat := [5, 6, 7, 8, 9]
def sExt1aEnv (s0 : ByteArray) (p1 : Pay) (l1 : Fo) (nb r : Nat) : Env := [(0, .val (.string s0)), (3, .sat (nP 0 (some r) p1 l1)), (4, .sat (rC nb r zp .nil)), (990, .sat (gP nb (some r)))]
theorem sExt1a_0 {Q : Exit → Act → World → Prop} (s0 : ByteArray) (p1 : Pay) (l1 : Fo) (nb r : Nat)  : RStep (strip sExt1Ops) Q (fun i => ((sExt1aEs s0 p1 l1 nb r)[i]?).getD .any) (fun i => (sExt1aDs[i]?).getD (1000 + i)) (look (sExt1aEnv s0 p1 l1 nb r)) 10 0 := fun _ => step_move (by kernel_rfl) (Opd.of_base 0 rfl) rfl
theorem sExt1a_1 {Q : Exit → Act → World → Prop} (s0 : ByteArray) (p1 : Pay) (l1 : Fo) (nb r : Nat)  : RStep (strip sExt1Ops) Q (fun i => ((sExt1aEs s0 p1 l1 nb r)[i]?).getD .any) (fun i => (sExt1aDs[i]?).getD (1000 + i)) (look (sExt1aEnv s0 p1 l1 nb r)) 10 1 := fun _ => step_atN (g := 990) (by kernel_rfl) (Opd.dep 0 rfl rfl (by kernel_rfl)) (Opd.of_base 990 rfl) rfl
theorem sExt1a_2 {Q : Exit → Act → World → Prop} (s0 : ByteArray) (p1 : Pay) (l1 : Fo) (nb r : Nat)  : RStep (strip sExt1Ops) Q (fun i => ((sExt1aEs s0 p1 l1 nb r)[i]?).getD .any) (fun i => (sExt1aDs[i]?).getD (1000 + i)) (look (sExt1aEnv s0 p1 l1 nb r)) 10 2 := fun _ => step_nload (by kernel_rfl) (Opd.of_base 3 rfl) rfl
theorem sExt1a_3 {Q : Exit → Act → World → Prop} (s0 : ByteArray) (p1 : Pay) (l1 : Fo) (nb r : Nat)  : RStep (strip sExt1Ops) Q (fun i => ((sExt1aEs s0 p1 l1 nb r)[i]?).getD .any) (fun i => (sExt1aDs[i]?).getD (1000 + i)) (look (sExt1aEnv s0 p1 l1 nb r)) 10 3 := fun _ => step_nslice2 (g := 990) (by kernel_rfl) (Opd.low (Opd.dep 1 rfl rfl (by kernel_rfl))) (Opd.dep 2 rfl rfl (by kernel_rfl)) (Opd.gp0 (Opd.of_base 990 rfl)) rfl
theorem sExt1a_4 {Q : Exit → Act → World → Prop} (s0 : ByteArray) (p1 : Pay) (l1 : Fo) (nb r : Nat)  : RStep (strip sExt1Ops) Q (fun i => ((sExt1aEs s0 p1 l1 nb r)[i]?).getD .any) (fun i => (sExt1aDs[i]?).getD (1000 + i)) (look (sExt1aEnv s0 p1 l1 nb r)) 10 4 := fun _ => step_errTS (Nat.le_of_ble_eq_true rfl) (g := 990) (by kernel_rfl) (Opd.const _) (Opd.dep 3 rfl rfl (by kernel_rfl)) (Opd.of_base 990 rfl) rfl
theorem sExt1a_region {Q : Exit → Act → World → Prop} (s0 : ByteArray) (p1 : Pay) (l1 : Fo) (nb r : Nat)  {w0 : World} {a : Act} {w : World} (hr : w0.heap.size ≤ r) (h : Hold 10 [(0, .val (.string s0)), (3, .sat (nP 0 (some r) p1 l1)), (4, .sat (rC nb r zp .nil)), (990, .sat (gP nb (some r)))] w0 a w)
    (hQ : ∀ a' w', Hold 10 [(990, .sat (gP nb (some r))), (4, .sat (rS nb r ((Tm.errOf (⟨#[101, 120, 105, 115, 116, 101, 110, 99, 101, 95, 101, 114, 114, 111, 114]⟩) (.node (2, 0, s0) .nil (.node p1 l1 .nil))).1) ((Tm.errOf (⟨#[101, 120, 105, 115, 116, 101, 110, 99, 101, 95, 101, 114, 114, 111, 114]⟩) (.node (2, 0, s0) .nil (.node p1 l1 .nil))).2)))] w0 a' w' → Q .normal a' w') : (Code.region 1 sExt1Ops true).wp Try.prog Q a w := by
  have hall : ∀ i, i < 0 → RStep (strip sExt1Ops) Q (fun i => ((sExt1aEs s0 p1 l1 nb r)[i]?).getD .any) (fun i => (sExt1aDs[i]?).getD (1000 + i)) (look (sExt1aEnv s0 p1 l1 nb r)) 10 i := fun i hi => absurd hi (by omega)
  have hall := below_succ hall (sExt1a_0 s0 p1 l1 nb r )
  have hall := below_succ hall (sExt1a_1 s0 p1 l1 nb r )
  have hall := below_succ hall (sExt1a_2 s0 p1 l1 nb r )
  have hall := below_succ hall (sExt1a_3 s0 p1 l1 nb r )
  have hall := below_succ hall (sExt1a_4 s0 p1 l1 nb r )
  refine env_then (m := 5) (n := 6) sExt1aDs (sExt1aEs s0 p1 l1 nb r) rfl (by kernel_rfl) (by decide) (by kernel_rfl) (of_decide_eq_true (by kernel_rfl)) (by kernel_rfl) (by kernel_rfl) (fun i_ hi_ => hall i_ hi_) h fun a w h => ?_
  clear hall
  have h := h.keep [0, 3, 4, 990, 5, 6, 7, 8, 9]
  show wpOps Try.prog _ Q [5] a w
  refine env_storeS (i := 5) (x := 4) (y := 9) (r := r) [(0, .val (.string s0)), (3, .sat (nP 0 (some r) p1 l1)), (990, .sat (gP nb (some r))), (5, .val (.string s0)), (6, .sat (nT nb (some r) (2, 0, s0) .nil)), (7, .sat (nT 0 (some r) p1 l1)), (8, .sat (nK 0 (some r) (.node (2, 0, s0) .nil (.node p1 l1 .nil))))] (by kernel_rfl) rfl rfl hr (stays_cons 0 rfl (away_val _ _) (stays_cons 3 rfl (away_nP _ _ _ _) (stays_cons 990 rfl (away_gP _ _ _) (stays_cons 5 rfl (away_val _ _) (stays_cons 6 rfl (away_nT _ _ _ _) (stays_cons 7 rfl (away_nT _ _ _ _) (stays_cons 8 rfl (away_nK _ _ _) (stays_nil _ _)))))))) h ?_
  clear h
  intro a w h
  exact hQ a w (h.keep [990, 4])
set_option maxHeartbeats 1000000 in
theorem sExt_any (s0 : ByteArray) (p1 : Pay) (l1 : Fo) (A1 : Option Addr) (c1 : Nat) (B : Nat) (w : World) (hA1 : ArgsB w B A1 (Tm.len l1) l1) (hB : B ≤ w.heap.size)  : Calls Try.prog 16 #[Value.string s0, tv p1 A1 (Tm.len l1) c1] w (MakesS (Bl.ext s0 p1 l1).1 (Bl.ext s0 p1 l1).2 w) := by
  refine calls_of_wp Try.func16 sExt_body ?_
  obtain ⟨v0, hv0⟩ : ∃ v : Value, v = Value.string s0 := ⟨_, rfl⟩
  obtain ⟨v1, hv1⟩ : ∃ v : Value, v = tv p1 A1 (Tm.len l1) c1 := ⟨_, rfl⟩
  rw [← hv0, ← hv1]
  have hk0 : (Kd.val (.string s0)).R v0 w := hv0
  have hk1 : (Kd.term p1 l1).R v1 w := by rw [hv1]; exact ⟨A1, c1, rfl, hA1.up hB⟩
  have hsN : (#[v0, v1] ++ Array.replicate (Try.f16.ntmps - #[v0, v1].size) undef : Array Value).size = 10 := by kernel_rfl
  have gs0 : (#[v0, v1] ++ Array.replicate (Try.f16.ntmps - #[v0, v1].size) undef : Array Value).getD 0 undef = v0 := by kernel_rfl
  have gs1 : (#[v0, v1] ++ Array.replicate (Try.f16.ntmps - #[v0, v1].size) undef : Array Value).getD 1 undef = v1 := by kernel_rfl
  generalize (#[v0, v1] ++ Array.replicate (Try.f16.ntmps - #[v0, v1].size) undef : Array Value) = tm at hsN gs0 gs1 ⊢
  obtain ⟨a, ha0⟩ : ∃ a : Act, a = ⟨tm, []⟩ := ⟨_, rfl⟩
  have h : Hold 10 [(0, .val (.string s0)), (1, .term p1 l1)] w ⟨tm, []⟩ w := ⟨hsN, rfl, Below.refl _ _, (slots_cons 0 (by rw [gs0]; exact hk0) (slots_cons 1 (by rw [gs1]; exact hk1) slots_nil))⟩
  obtain ⟨nb, hnb⟩ : ∃ nb, nb = w.heap.size := ⟨_, rfl⟩
  have hn : nb ≤ w.heap.size := by omega
  refine wp_seq ?_
  refine sExt0a_region s0 p1 l1 nb  hn h ?_
  intro r a w1 hr h
  show Code.wp _ _ _ a w1
  refine wp_seq ?_
  refine sExt1a_region s0 p1 l1 nb r  hr h ?_
  intro a w1 h
  show Code.wp _ _ _ a w1
  refine wp_ret ?_
  (try simp only [then_ret, block_ret])
  exact law_cellS rfl (h.get 4 rfl) h.defers fun A c ha => ⟨A, c, rfl, ha.mono fun b hb => ⟨by have := hb.1.1; omega, hb.1.2.1, hb.2⟩, h.world⟩
section
variable {ops : Array Oper} {Q : Exit → Act → World → Prop} {E : Nat → Kd} {D : Nat → Nat} {base : Nat → Option Kd} {N : Nat}
end
noncomputable def sPerm0Ops : Array Oper := ((Try.f17.body).bind (findReg 0)).getD #[]
noncomputable def sPerm1Ops : Array Oper := ((Try.f17.body).bind (findReg 1)).getD #[]
theorem sPerm_body : Try.f17.body = some (.seq (.region 0 sPerm0Ops false) (.seq (.region 1 sPerm1Ops true) .ret)) := by kernel_rfl
theorem sPerm0a_region {Q : Exit → Act → World → Prop} (s0 : ByteArray) (s1 : ByteArray) (p2 : Pay) (l2 : Fo) (nb : Nat)  {w0 : World} {a : Act} {w : World} (hn : nb ≤ w0.heap.size) (h : Hold 14 [(0, .val (.string s0)), (1, .val (.string s1)), (2, .term p2 l2)] w0 a w)
    (hQ : ∀ r a' w', w0.heap.size ≤ r → Hold 14 [(0, .val (.string s0)), (1, .val (.string s1)), (5, .sat (nP 0 (some r) p2 l2)), (6, .sat (rC nb r zp .nil)), (990, .sat (gP nb (some r)))] w0 a' w' → Q .normal a' w') : (Code.region 0 sPerm0Ops false).wp Try.prog Q a w := by
  refine region_seq (w0 := w) 2 (by kernel_rfl) ?_
  rw [show List.range 2 = [0, 1] from rfl]
  refine env_one (i := 0) (d := 5) (k := .ptrT p2 l2) (step_box (by kernel_rfl) (Opd.of_base 2 rfl) rfl) (by kernel_rfl) (by decide) h ?_
  clear h
  intro a w h
  refine env_res (i := 1) (d := 6) (n := nb) (fun r => [(0, .val (.string s0)), (1, .val (.string s1)), (2, .sat (nT 0 (some r) p2 l2)), (5, .sat (nP 0 (some r) p2 l2))]) (by kernel_rfl) (by decide) (by decide) hn (fun r => (goes_cons 0 rfl (turns_val _ _) (goes_cons 1 rfl (turns_val _ _) (goes_cons 2 rfl (turns_term _ _ _) (goes_cons 5 rfl (turns_ptr _ _ _) (goes_nil _ _)))))) h ?_
  clear h
  intro r a w hr h
  exact hQ r a w hr (h.keep [0, 1, 5, 6, 990])
def sPerm1aEs (s0 : ByteArray) (s1 : ByteArray) (p2 : Pay) (l2 : Fo) (nb r : Nat) : List Kd := [
  .val (.string s0),
  .sat (nT nb (some r) (2, 0, s0) .nil),
  .val (.string s1),
  .sat (nT nb (some r) (2, 0, s1) .nil),
  .sat (nT 0 (some r) p2 l2),
  .sat (nK 0 (some r) (.node (2, 0, s0) .nil (.node (2, 0, s1) .nil (.node p2 l2 .nil)))),
  .sat (nS nb (some r) ((Tm.errOf (⟨#[112, 101, 114, 109, 105, 115, 115, 105, 111, 110, 95, 101, 114, 114, 111, 114]⟩) (.node (2, 0, s0) .nil (.node (2, 0, s1) .nil (.node p2 l2 .nil)))).1) ((Tm.errOf (⟨#[112, 101, 114, 109, 105, 115, 115, 105, 111, 110, 95, 101, 114, 114, 111, 114]⟩) (.node (2, 0, s0) .nil (.node (2, 0, s1) .nil (.node p2 l2 .nil)))).2))]
def sPerm1aDs : List Nat := [7, 8, 9, 10, 11, 12, 13]
def sPerm1aEnv (s0 : ByteArray) (s1 : ByteArray) (p2 : Pay) (l2 : Fo) (nb r : Nat) : Env := [(0, .val (.string s0)), (1, .val (.string s1)), (5, .sat (nP 0 (some r) p2 l2)), (6, .sat (rC nb r zp .nil)), (990, .sat (gP nb (some r)))]
theorem sPerm1a_0 {Q : Exit → Act → World → Prop} (s0 : ByteArray) (s1 : ByteArray) (p2 : Pay) (l2 : Fo) (nb r : Nat)  : RStep (strip sPerm1Ops) Q (fun i => ((sPerm1aEs s0 s1 p2 l2 nb r)[i]?).getD .any) (fun i => (sPerm1aDs[i]?).getD (1000 + i)) (look (sPerm1aEnv s0 s1 p2 l2 nb r)) 14 0 := fun _ => step_move (by kernel_rfl) (Opd.of_base 0 rfl) rfl
theorem sPerm1a_1 {Q : Exit → Act → World → Prop} (s0 : ByteArray) (s1 : ByteArray) (p2 : Pay) (l2 : Fo) (nb r : Nat)  : RStep (strip sPerm1Ops) Q (fun i => ((sPerm1aEs s0 s1 p2 l2 nb r)[i]?).getD .any) (fun i => (sPerm1aDs[i]?).getD (1000 + i)) (look (sPerm1aEnv s0 s1 p2 l2 nb r)) 14 1 := fun _ => step_atN (g := 990) (by kernel_rfl) (Opd.dep 0 rfl rfl (by kernel_rfl)) (Opd.of_base 990 rfl) rfl
theorem sPerm1a_2 {Q : Exit → Act → World → Prop} (s0 : ByteArray) (s1 : ByteArray) (p2 : Pay) (l2 : Fo) (nb r : Nat)  : RStep (strip sPerm1Ops) Q (fun i => ((sPerm1aEs s0 s1 p2 l2 nb r)[i]?).getD .any) (fun i => (sPerm1aDs[i]?).getD (1000 + i)) (look (sPerm1aEnv s0 s1 p2 l2 nb r)) 14 2 := fun _ => step_move (by kernel_rfl) (Opd.of_base 1 rfl) rfl
theorem sPerm1a_3 {Q : Exit → Act → World → Prop} (s0 : ByteArray) (s1 : ByteArray) (p2 : Pay) (l2 : Fo) (nb r : Nat)  : RStep (strip sPerm1Ops) Q (fun i => ((sPerm1aEs s0 s1 p2 l2 nb r)[i]?).getD .any) (fun i => (sPerm1aDs[i]?).getD (1000 + i)) (look (sPerm1aEnv s0 s1 p2 l2 nb r)) 14 3 := fun _ => step_atN (g := 990) (by kernel_rfl) (Opd.dep 2 rfl rfl (by kernel_rfl)) (Opd.of_base 990 rfl) rfl
theorem sPerm1a_4 {Q : Exit → Act → World → Prop} (s0 : ByteArray) (s1 : ByteArray) (p2 : Pay) (l2 : Fo) (nb r : Nat)  : RStep (strip sPerm1Ops) Q (fun i => ((sPerm1aEs s0 s1 p2 l2 nb r)[i]?).getD .any) (fun i => (sPerm1aDs[i]?).getD (1000 + i)) (look (sPerm1aEnv s0 s1 p2 l2 nb r)) 14 4 := fun _ => step_nload (by kernel_rfl) (Opd.of_base 5 rfl) rfl
theorem sPerm1a_5 {Q : Exit → Act → World → Prop} (s0 : ByteArray) (s1 : ByteArray) (p2 : Pay) (l2 : Fo) (nb r : Nat)  : RStep (strip sPerm1Ops) Q (fun i => ((sPerm1aEs s0 s1 p2 l2 nb r)[i]?).getD .any) (fun i => (sPerm1aDs[i]?).getD (1000 + i)) (look (sPerm1aEnv s0 s1 p2 l2 nb r)) 14 5 := fun _ => step_nslice3 (g := 990) (by kernel_rfl) (Opd.low (Opd.dep 1 rfl rfl (by kernel_rfl))) (Opd.low (Opd.dep 3 rfl rfl (by kernel_rfl))) (Opd.dep 4 rfl rfl (by kernel_rfl)) (Opd.gp0 (Opd.of_base 990 rfl)) rfl
theorem sPerm1a_6 {Q : Exit → Act → World → Prop} (s0 : ByteArray) (s1 : ByteArray) (p2 : Pay) (l2 : Fo) (nb r : Nat)  : RStep (strip sPerm1Ops) Q (fun i => ((sPerm1aEs s0 s1 p2 l2 nb r)[i]?).getD .any) (fun i => (sPerm1aDs[i]?).getD (1000 + i)) (look (sPerm1aEnv s0 s1 p2 l2 nb r)) 14 6 := fun _ => step_errTS (Nat.le_of_ble_eq_true rfl) (g := 990) (by kernel_rfl) (Opd.const _) (Opd.dep 5 rfl rfl (by kernel_rfl)) (Opd.of_base 990 rfl) rfl
theorem sPerm1a_region {Q : Exit → Act → World → Prop} (s0 : ByteArray) (s1 : ByteArray) (p2 : Pay) (l2 : Fo) (nb r : Nat)  {w0 : World} {a : Act} {w : World} (hr : w0.heap.size ≤ r) (h : Hold 14 [(0, .val (.string s0)), (1, .val (.string s1)), (5, .sat (nP 0 (some r) p2 l2)), (6, .sat (rC nb r zp .nil)), (990, .sat (gP nb (some r)))] w0 a w)
    (hQ : ∀ a' w', Hold 14 [(990, .sat (gP nb (some r))), (6, .sat (rS nb r ((Tm.errOf (⟨#[112, 101, 114, 109, 105, 115, 115, 105, 111, 110, 95, 101, 114, 114, 111, 114]⟩) (.node (2, 0, s0) .nil (.node (2, 0, s1) .nil (.node p2 l2 .nil)))).1) ((Tm.errOf (⟨#[112, 101, 114, 109, 105, 115, 115, 105, 111, 110, 95, 101, 114, 114, 111, 114]⟩) (.node (2, 0, s0) .nil (.node (2, 0, s1) .nil (.node p2 l2 .nil)))).2)))] w0 a' w' → Q .normal a' w') : (Code.region 1 sPerm1Ops true).wp Try.prog Q a w := by
  have hall : ∀ i, i < 0 → RStep (strip sPerm1Ops) Q (fun i => ((sPerm1aEs s0 s1 p2 l2 nb r)[i]?).getD .any) (fun i => (sPerm1aDs[i]?).getD (1000 + i)) (look (sPerm1aEnv s0 s1 p2 l2 nb r)) 14 i := fun i hi => absurd hi (by omega)
  have hall := below_succ hall (sPerm1a_0 s0 s1 p2 l2 nb r )
  have hall := below_succ hall (sPerm1a_1 s0 s1 p2 l2 nb r )
  have hall := below_succ hall (sPerm1a_2 s0 s1 p2 l2 nb r )
  have hall := below_succ hall (sPerm1a_3 s0 s1 p2 l2 nb r )
  have hall := below_succ hall (sPerm1a_4 s0 s1 p2 l2 nb r )
  have hall := below_succ hall (sPerm1a_5 s0 s1 p2 l2 nb r )
  have hall := below_succ hall (sPerm1a_6 s0 s1 p2 l2 nb r )
  refine env_then (m := 7) (n := 8) sPerm1aDs (sPerm1aEs s0 s1 p2 l2 nb r) rfl (by kernel_rfl) (by decide) (by kernel_rfl) (of_decide_eq_true (by kernel_rfl)) (by kernel_rfl) (by kernel_rfl) (fun i_ hi_ => hall i_ hi_) h fun a w h => ?_
  clear hall
  have h := h.keep [0, 1, 5, 6, 990, 7, 8, 9, 10, 11, 12, 13]
  show wpOps Try.prog _ Q [7] a w
  refine env_storeS (i := 7) (x := 6) (y := 13) (r := r) [(0, .val (.string s0)), (1, .val (.string s1)), (5, .sat (nP 0 (some r) p2 l2)), (990, .sat (gP nb (some r))), (7, .val (.string s0)), (8, .sat (nT nb (some r) (2, 0, s0) .nil)), (9, .val (.string s1)), (10, .sat (nT nb (some r) (2, 0, s1) .nil)), (11, .sat (nT 0 (some r) p2 l2)), (12, .sat (nK 0 (some r) (.node (2, 0, s0) .nil (.node (2, 0, s1) .nil (.node p2 l2 .nil)))))] (by kernel_rfl) rfl rfl hr (stays_cons 0 rfl (away_val _ _) (stays_cons 1 rfl (away_val _ _) (stays_cons 5 rfl (away_nP _ _ _ _) (stays_cons 990 rfl (away_gP _ _ _) (stays_cons 7 rfl (away_val _ _) (stays_cons 8 rfl (away_nT _ _ _ _) (stays_cons 9 rfl (away_val _ _) (stays_cons 10 rfl (away_nT _ _ _ _) (stays_cons 11 rfl (away_nT _ _ _ _) (stays_cons 12 rfl (away_nK _ _ _) (stays_nil _ _))))))))))) h ?_
  clear h
  intro a w h
  exact hQ a w (h.keep [990, 6])
set_option maxHeartbeats 1000000 in
theorem sPerm_any (s0 : ByteArray) (s1 : ByteArray) (p2 : Pay) (l2 : Fo) (A2 : Option Addr) (c2 : Nat) (B : Nat) (w : World) (hA2 : ArgsB w B A2 (Tm.len l2) l2) (hB : B ≤ w.heap.size)  : Calls Try.prog 17 #[Value.string s0, Value.string s1, tv p2 A2 (Tm.len l2) c2] w (MakesS (Bl.perm s0 s1 p2 l2).1 (Bl.perm s0 s1 p2 l2).2 w) := by
  refine calls_of_wp Try.func17 sPerm_body ?_
  obtain ⟨v0, hv0⟩ : ∃ v : Value, v = Value.string s0 := ⟨_, rfl⟩
  obtain ⟨v1, hv1⟩ : ∃ v : Value, v = Value.string s1 := ⟨_, rfl⟩
  obtain ⟨v2, hv2⟩ : ∃ v : Value, v = tv p2 A2 (Tm.len l2) c2 := ⟨_, rfl⟩
  rw [← hv0, ← hv1, ← hv2]
  have hk0 : (Kd.val (.string s0)).R v0 w := hv0
  have hk1 : (Kd.val (.string s1)).R v1 w := hv1
  have hk2 : (Kd.term p2 l2).R v2 w := by rw [hv2]; exact ⟨A2, c2, rfl, hA2.up hB⟩
  have hsN : (#[v0, v1, v2] ++ Array.replicate (Try.f17.ntmps - #[v0, v1, v2].size) undef : Array Value).size = 14 := by kernel_rfl
  have gs0 : (#[v0, v1, v2] ++ Array.replicate (Try.f17.ntmps - #[v0, v1, v2].size) undef : Array Value).getD 0 undef = v0 := by kernel_rfl
  have gs1 : (#[v0, v1, v2] ++ Array.replicate (Try.f17.ntmps - #[v0, v1, v2].size) undef : Array Value).getD 1 undef = v1 := by kernel_rfl
  have gs2 : (#[v0, v1, v2] ++ Array.replicate (Try.f17.ntmps - #[v0, v1, v2].size) undef : Array Value).getD 2 undef = v2 := by kernel_rfl
  generalize (#[v0, v1, v2] ++ Array.replicate (Try.f17.ntmps - #[v0, v1, v2].size) undef : Array Value) = tm at hsN gs0 gs1 gs2 ⊢
  obtain ⟨a, ha0⟩ : ∃ a : Act, a = ⟨tm, []⟩ := ⟨_, rfl⟩
  have h : Hold 14 [(0, .val (.string s0)), (1, .val (.string s1)), (2, .term p2 l2)] w ⟨tm, []⟩ w := ⟨hsN, rfl, Below.refl _ _, (slots_cons 0 (by rw [gs0]; exact hk0) (slots_cons 1 (by rw [gs1]; exact hk1) (slots_cons 2 (by rw [gs2]; exact hk2) slots_nil)))⟩
  obtain ⟨nb, hnb⟩ : ∃ nb, nb = w.heap.size := ⟨_, rfl⟩
  have hn : nb ≤ w.heap.size := by omega
  refine wp_seq ?_
  refine sPerm0a_region s0 s1 p2 l2 nb  hn h ?_
  intro r a w1 hr h
  show Code.wp _ _ _ a w1
  refine wp_seq ?_
  refine sPerm1a_region s0 s1 p2 l2 nb r  hr h ?_
  intro a w1 h
  show Code.wp _ _ _ a w1
  refine wp_ret ?_
  (try simp only [then_ret, block_ret])
  exact law_cellS rfl (h.get 6 rfl) h.defers fun A c ha => ⟨A, c, rfl, ha.mono fun b hb => ⟨by have := hb.1.1; omega, hb.1.2.1, hb.2⟩, h.world⟩
section
variable {ops : Array Oper} {Q : Exit → Act → World → Prop} {E : Nat → Kd} {D : Nat → Nat} {base : Nat → Option Kd} {N : Nat}
end
end Go.Proofs.Ytapcnehpechkpaa
