/-
  What BallsKnown needs besides.
-/
import Derived.Test.YtapcnehpechkpaaFacts6
import Derived.Test.YtapcnehpechkpaaErr1
import Derived.Test.YtapcnehpechkpaaIndM
namespace Go.Proofs.Ytapcnehpechkpaa
set_option linter.unusedVariables false
set_option linter.unusedSimpArgs false
set_option maxRecDepth 100000
open Go.RowKit
namespace Bl
def one1 : Pay := (1, 1, ByteArray.empty)
/-- The list of k ones. -/
def listT : Nat → Pay × Fo
  | 0 => (Tm.emptyA, .nil)
  | k + 1 => ((3, 0, ⟨#[46]⟩), .node one1 .nil (.node (listT k).1 (listT k).2 .nil))
def kstr (k : Nat) : ByteArray := ⟨(List.replicate k 107).toArray⟩
theorem kstr_succ (k : Nat) : kstr k ++ ⟨#[107]⟩ = kstr (k + 1) := by
  have h : (kstr k ++ (⟨#[107]⟩ : ByteArray)).data = (kstr (k + 1)).data := by
    rw [ByteArray.data_append]
    apply Array.ext'
    simp [kstr, List.replicate_succ']
  exact congrArg ByteArray.mk h
theorem kstr_size (k : Nat) : (kstr k).size = k := by
  show (List.replicate k (107 : UInt8)).toArray.size = k
  simp
end Bl
/-- The result's cell, not yet written, beside another one. -/
def zC (r r2 : Nat) : Pd where
  R := fun v w => v = .pointer (some ⟨r, 0, none⟩) ∧ r < w.heap.size ∧ r ≠ r2 ∧ SoftAt w r ∧ ∃ A c, TermAt w r zp A 0 c
  keep := by
    rintro v w w' ⟨e, hr, hne, hs, A, c, ht⟩ hb
    exact ⟨e, Nat.lt_of_lt_of_le hr hb.size, hne, hs.same (hb.block _ hr), A, c, ht.same (hb.block _ hr)⟩
theorem away_zC (r r2 : Nat) : Away r2 (.sat (zC r r2)) := by
  rintro v w w' hw ⟨e, hr, hne, hs, A, c, ht⟩
  exact ⟨e, by rw [hw.size]; exact hr, hne, hs.same (hw.block _ hne), A, c, ht.same (hw.block _ hne)⟩
theorem turns_zC (n r r2 : Nat) : Turns r2 (.sat (rC n r zp .nil)) (.sat (zC r r2)) := by
  rintro v w o hr2 ⟨e, hr, hs, A, c, ht, _⟩
  have hb : (w.alloc o).heap[r]? = w.heap[r]? := Below.heap_alloc w o r hr
  exact ⟨e, by rw [World.size_alloc]; omega, by omega, hs.same hb, A, c, ht.same hb⟩
theorem turns_leaf (n m r : Nat) (G : Option Nat) (p : Pay) : Turns r (.sat (nT n G p .nil)) (.sat (nT m (some r) p .nil)) := by
  rintro v w o hr ⟨A, c, e, h⟩
  exact ⟨A, c, e, ArgsIn.nil _ _ _⟩
section
variable {ops : Array Oper} {Q : Exit → Act → World → Prop} {N : Nat} {env : Env} {w0 w : World} {a : Act}
/-- A second cell: what is new from here on lies behind the first one. -/
theorem env_res2 {i d x n r : Nat} {rest : List Nat} (env' : Nat → Env) (hop : (ops[i]?).map (fun o => (o.op, o.dst, o.guard)) = some (.alloc 24, some d, none)) (hd : d < N) (hx : look env x = some (.sat (rC n r zp .nil))) (hs : ∀ r2, Goes r2 env (env' r2)) (st : Hold N env w0 a w)
    (h : ∀ r2 a' w', w0.heap.size ≤ r2 → Hold N ((d, .sat (rC (r + 1) r2 zp .nil)) :: (990, .sat (gP (r + 1) (some r2))) :: (env' r2).filter (fun e => e.1 != d && e.1 != 990)) w0 a' w' → wpOps Try.prog ops Q rest a' w') : wpOps Try.prog ops Q (i :: rest) a w := by
  have hrw : r < w.heap.size := (st.slots _ _ hx).2.1
  cases ho : ops[i]? with
  | none => rw [ho] at hop; cases hop
  | some o =>
  rw [ho] at hop
  have hop := Option.some.inj hop
  obtain ⟨dst, op, ty, pos, after, guard⟩ := o
  simp only [Prod.mk.injEq] at hop
  obtain ⟨e1, e2, e3⟩ := hop
  subst e1 e2 e3
  simp only [wpOps, ho, wanted_free (o := ⟨some d, .alloc 24, ty, pos, after, none⟩) rfl, if_true]
  refine .inl (wp_alloc_op ?_)
  have hb : Below w.heap.size w (w.alloc (.cells #[.int .i64 0, .int .i64 0, .string ⟨#[]⟩, .slice none 0 0] 24)) := (Below.refl _ _).alloc (Nat.le_refl _) _
  have hr := ResAt.new w 24 w.heap.size rfl
  refine h w.heap.size _ _ st.world.size ⟨put_size.trans st.size, st.defers, st.world.trans (hb.mono st.world.size), fun t k hk => ?_⟩
  rw [look_cons] at hk
  by_cases e : d = t
  · subst e
    rw [if_pos (by simp)] at hk
    cases hk
    rw [put_self (by rw [st.size]; exact hd)]
    exact ⟨rfl, by simp, hr.s, none, 0, hr.t, ArgsIn.nil _ _ _⟩
  · rw [if_neg (by simpa using e)] at hk
    rw [put_other (fun e' => e e'.symm)]
    rw [look_cons] at hk
    by_cases e9 : 990 = t
    · subst e9
      rw [if_pos (by simp)] at hk
      cases hk
      exact ⟨by simp; omega, fun r e => by injection e with e; subst e; simp⟩
    · rw [if_neg (by simpa using e9)] at hk
      have hk2 : look (env' w.heap.size) t = some k := by
        unfold look at hk ⊢
        obtain ⟨e0, he0, rfl⟩ := Option.map_eq_some_iff.1 hk
        rw [List.find?_filter] at he0
        refine Option.map_eq_some_iff.2 ⟨e0, ?_, rfl⟩
        rw [← he0]
        refine congrArg (fun f => List.find? f (env' w.heap.size)) (funext fun x => ?_)
        by_cases hx : x.1 = t
        · subst hx
          have h1 : (x.1 != d) = true := by simpa using fun e' => e e'.symm
          have h2 : (x.1 != 990) = true := by simpa using fun e' => e9 e'.symm
          simp [h1, h2]
        · simp [hx]
      obtain ⟨k0, h0, ht⟩ := hs w.heap.size t k hk2
      exact ht _ _ _ rfl (st.slots t k0 h0)
/-- The first cell is written in the end. -/
theorem env_storeZ {i x y r r2 : Nat} {p : Pay} {l : Fo} {rest : List Nat} (hop : (ops[i]?).map (fun o => (o.op, o.dst, o.guard)) = some (.store 24 (.tmp x) (.tmp y), none, none))
    (hx : look env x = some (.sat (zC r r2))) (hy : look env y = some (.sat (nT (r + 1) (some r2) p l))) (hr : w0.heap.size ≤ r) (st : Hold N env w0 a w)
    (h : ∀ a' w', Hold N [(x, .sat (rC (r + 1) r p l))] w0 a' w' → wpOps Try.prog ops Q rest a' w') : wpOps Try.prog ops Q (i :: rest) a w := by
  obtain ⟨ex, hrw, _, hsoft, A0, c0, ht⟩ := st.slots _ _ hx
  obtain ⟨A, c, ey, ha⟩ := st.slots _ _ hy
  cases ho : ops[i]? with
  | none => rw [ho] at hop; cases hop
  | some o =>
  rw [ho] at hop
  have hop := Option.some.inj hop
  obtain ⟨dst, op, ty, pos, after, guard⟩ := o
  simp only [Prod.mk.injEq] at hop
  obtain ⟨e1, e2, e3⟩ := hop
  subst e1 e2 e3
  have hrun := run_store_at (a := a) (x := .tmp x) (y := .tmp y) (ty := ty) (pos := pos) (after := after) (guard := none) w r p A (Tm.len l) c ex ey ht.four hsoft
  have sd := stored w r p zp A A0 (Tm.len l) c 0 c0 ht hsoft
  have hw : Wrote r w (set4 w r 0 p A (Tm.len l) c) := ⟨sd.size, fun b hb => sd.block b hb⟩
  simp only [wpOps, ho, wanted_free (o := ⟨none, .store 24 (.tmp x) (.tmp y), ty, pos, after, none⟩) rfl, if_true]
  refine .inl ?_
  unfold Oper.wp
  rw [hrun]
  refine h _ _ ⟨st.size, st.defers, sd.below _ _ st.world hr, fun t k hk => ?_⟩
  rw [look_cons] at hk
  by_cases e : x = t
  · subst e
    rw [if_pos (by simp)] at hk
    cases hk
    refine ⟨ex, by rw [sd.size]; exact hrw, sd.soft, A, c, sd.term, ?_⟩
    exact ArgsIn.wrote (ha.mono fun b hb => ⟨hb.1, hb.2.1, fun e => by injection e with e; have := hb.1; omega⟩) hw
  · rw [if_neg (by simpa using e)] at hk
    cases hk
end
section
variable {ops : Array Oper} {Q : Exit → Act → World → Prop} {E : Nat → Kd} {D : Nat → Nat} {base : Nat → Option Kd} {N : Nat}
theorem step_callv {i : Nat} {t : Tmp} {f : Nat} {cap : Array Value} {xs : Array Operand} {tys : Array TypeId} (hop : (ops[i]?).map (·.op) = some (.call { callee := .value (.tmp t), args := xs, argTypes := tys })) (ht : Opd ops E D base N i (.tmp t) (.val (.func (.func f) #[] cap))) (he : ∀ (args : Array Value) (w : World), (callFunc f args).run Try.prog w = .ok (.enter f args) w)
    (hc : ∀ a w, Ctx ops E D base N i a w → Calls Try.prog f (xs.map a.eval ++ cap) w fun e w' => ∃ v, e = .returned v ∧ (E i).R v w' ∧ Below w.heap.size w w') : Step Try.prog ops Q E D base N i := by
  intro o ho a w h K hK
  have hxo := op_of ho hop
  obtain ⟨dst, op, ty, pos, after, guard⟩ := o
  have hx' : op = _ := hxo
  subst hx'
  have et : a.eval (.tmp t) = .func (.func f) #[] cap := ht a w h
  have hrun : (execOp a.eval ⟨dst, .call { callee := .value (.tmp t), args := xs, argTypes := tys }, ty, pos, after, guard⟩).run Try.prog w = .ok (.enter f (xs.map a.eval ++ cap)) w := by
    have h1 : (execOp a.eval ⟨dst, .call { callee := .value (.tmp t), args := xs, argTypes := tys }, ty, pos, after, guard⟩).run Try.prog w = (callFunc f ((#[] ++ xs.map a.eval) ++ cap)).run Try.prog w := by
      unfold execOp
      simp only [resolve, et]
      rfl
    rw [h1, Array.empty_append]
    exact he _ w
  unfold Oper.wp
  rw [hrun]
  show Calls _ _ _ _ _
  refine (hc a w h).mono ?_
  rintro e w' ⟨v, rfl, hv, hb⟩
  exact hK v w' hv hb
theorem step_concat {i : Nat} {x y : Operand} {s t : ByteArray} (hst : s.size + t.size ≤ 9223372036854775807) (hop : (ops[i]?).map (·.op) = some (.binOp .add 9 x y 9)) (hx : Opd ops E D base N i x (.val (.string s))) (hy : Opd ops E D base N i y (.val (.string t))) (hE : E i = .val (.string (s ++ t))) : Step Try.prog ops Q E D base N i :=
  step_still hop hE fun a w h dst ty' pos after guard => by
    have e : a.eval x = .string s := hx a w h
    have e' : a.eval y = .string t := hy a w h
    refine ⟨.string (s ++ t), ?_, rfl⟩
    unfold execOp
    simp only [e, e']
    go_simp
theorem step_pre100 {i : Nat} {x : Operand} {s t : ByteArray} (hs : 100 ≤ s.size) (ht : s.extract 0 100 = t) (hop : (ops[i]?).map (·.op) = some (.slice 9 x none (some (.const (.int .i64 100))) none)) (hx : Opd ops E D base N i x (.val (.string s))) (hE : E i = .val (.string t)) : Step Try.prog ops Q E D base N i :=
  step_still hop hE fun a w h dst ty' pos after guard => by
    have e : a.eval x = .string s := hx a w h
    refine ⟨.string t, ?_, rfl⟩
    have hs' : (100 : Int) ≤ (s.size : Int) := by omega
    rw [← ht]
    unfold execOp
    simp only [e]
    go_simp
end
theorem kstr_pre : (Bl.kstr 101).extract 0 100 = Bl.kstr 100 := by kernel_rfl
noncomputable def l590Ops : Array Oper := ((Try.f59.body).bind (findReg 0)).getD #[]
noncomputable def l591Ops : Array Oper := ((Try.f59.body).bind (findReg 1)).getD #[]
noncomputable def l592Ops : Array Oper := ((Try.f59.body).bind (findReg 2)).getD #[]
noncomputable def l593Ops : Array Oper := ((Try.f59.body).bind (findReg 3)).getD #[]
noncomputable def l594Ops : Array Oper := ((Try.f59.body).bind (findReg 4)).getD #[]
noncomputable def l595Ops : Array Oper := ((Try.f59.body).bind (findReg 5)).getD #[]
noncomputable def l596Ops : Array Oper := ((Try.f59.body).bind (findReg 6)).getD #[]
theorem l59_body : Try.f59.body = some (.seq (.region 0 l590Ops false) (.seq (.region 1 l591Ops false) (.seq (.seq (.region 2 l592Ops false) (.block 0 (.loop (.seq (.seq (.region 3 l593Ops false) (.cond (.tmp 8) .skip (.exit 0))) (.seq (.block 1 (.region 5 l595Ops true)) (.region 4 l594Ops false)))))) (.seq (.region 6 l596Ops false) .ret)))) := by kernel_rfl
theorem l590a_region {Q : Exit → Act → World → Prop} (s0 : Int) (nb : Nat)  {w0 : World} {a : Act} {w : World} (hn : nb ≤ w0.heap.size) (h : Hold 16 [(0, .val (.int .i64 s0))] w0 a w)
    (hQ : ∀ r a' w', w0.heap.size ≤ r → Hold 16 [(0, .val (.int .i64 s0)), (2, .sat (rC nb r zp .nil)), (990, .sat (gP nb (some r)))] w0 a' w' → Q .normal a' w') : (Code.region 0 l590Ops false).wp Try.prog Q a w := by
  refine region_seq (w0 := w) 1 (by kernel_rfl) ?_
  rw [show List.range 1 = [0] from rfl]
  refine env_res (i := 0) (d := 2) (n := nb) (fun r => [(0, .val (.int .i64 s0))]) (by kernel_rfl) (by decide) (by decide) hn (fun r => (goes_cons 0 rfl (turns_val _ _) (goes_nil _ _))) h ?_
  clear h
  intro r a w hr h
  exact hQ r a w hr (h.keep [0, 2, 990])
theorem l593a_region {Q : Exit → Act → World → Prop} (s0 : Int) (r r2 ii : Nat) (hlt : ((ii : Nat) : Int) < s0) {w0 : World} {a : Act} {w : World} (h : Hold 16 [(0, .val (.int .i64 s0)), (2, .sat (zC r r2)), (3, .sat (rC (r + 1) r2 ((Bl.listT ii).1) ((Bl.listT ii).2))), (4, .val (.int .i64 ((ii : Nat) : Int))), (990, .sat (gP (r + 1) (some r2)))] w0 a w)
    (hQ : ∀ a' w', Hold 16 [(0, .val (.int .i64 s0)), (2, .sat (zC r r2)), (3, .sat (rC (r + 1) r2 ((Bl.listT ii).1) ((Bl.listT ii).2))), (4, .val (.int .i64 ((ii : Nat) : Int))), (990, .sat (gP (r + 1) (some r2))), (8, .val (.bool true))] w0 a' w' → Q .normal a' w') : (Code.region 3 l593Ops false).wp Try.prog Q a w := by
  refine region_seq (w0 := w) 3 (by kernel_rfl) ?_
  rw [show List.range 3 = [0, 1, 2] from rfl]
  refine env_one (i := 0) (d := 6) (k := .val (.int .i64 ((ii : Nat) : Int))) (step_move (by kernel_rfl) (Opd.of_base 4 rfl) rfl) (by kernel_rfl) (by decide) h ?_
  clear h
  intro a w h
  refine env_one (i := 1) (d := 7) (k := .val (.int .i64 s0)) (step_move (by kernel_rfl) (Opd.of_base 0 rfl) rfl) (by kernel_rfl) (by decide) h ?_
  clear h
  intro a w h
  refine env_one (i := 2) (d := 8) (k := .val (.bool true)) (step_lt_int (m := ((ii : Nat) : Int)) (n := s0) (by kernel_rfl) (Opd.of_base 6 rfl) (Opd.of_base 7 rfl) (decide_eq_true hlt) rfl) (by kernel_rfl) (by decide) h ?_
  clear h
  intro a w h
  exact hQ a w (h.keep [0, 2, 3, 4, 990, 8])
theorem l593b_region {Q : Exit → Act → World → Prop} (s0 : Int) (r r2 ii : Nat) (hlt : ¬ ((ii : Nat) : Int) < s0) {w0 : World} {a : Act} {w : World} (h : Hold 16 [(0, .val (.int .i64 s0)), (2, .sat (zC r r2)), (3, .sat (rC (r + 1) r2 ((Bl.listT ii).1) ((Bl.listT ii).2))), (4, .val (.int .i64 ((ii : Nat) : Int))), (990, .sat (gP (r + 1) (some r2)))] w0 a w)
    (hQ : ∀ a' w', Hold 16 [(0, .val (.int .i64 s0)), (2, .sat (zC r r2)), (3, .sat (rC (r + 1) r2 ((Bl.listT ii).1) ((Bl.listT ii).2))), (4, .val (.int .i64 ((ii : Nat) : Int))), (990, .sat (gP (r + 1) (some r2))), (8, .val (.bool false))] w0 a' w' → Q .normal a' w') : (Code.region 3 l593Ops false).wp Try.prog Q a w := by
  refine region_seq (w0 := w) 3 (by kernel_rfl) ?_
  rw [show List.range 3 = [0, 1, 2] from rfl]
  refine env_one (i := 0) (d := 6) (k := .val (.int .i64 ((ii : Nat) : Int))) (step_move (by kernel_rfl) (Opd.of_base 4 rfl) rfl) (by kernel_rfl) (by decide) h ?_
  clear h
  intro a w h
  refine env_one (i := 1) (d := 7) (k := .val (.int .i64 s0)) (step_move (by kernel_rfl) (Opd.of_base 0 rfl) rfl) (by kernel_rfl) (by decide) h ?_
  clear h
  intro a w h
  refine env_one (i := 2) (d := 8) (k := .val (.bool false)) (step_lt_int (m := ((ii : Nat) : Int)) (n := s0) (by kernel_rfl) (Opd.of_base 6 rfl) (Opd.of_base 7 rfl) (decide_eq_false hlt) rfl) (by kernel_rfl) (by decide) h ?_
  clear h
  intro a w h
  exact hQ a w (h.keep [0, 2, 3, 4, 990, 8])
def l595aEs (s0 : Int) (r r2 ii : Nat) : List Kd := [
  .sat (nT (r + 1) (some r2) (1, 1, ByteArray.empty) .nil),
  .sat (nT (r + 1) (some r2) ((Bl.listT ii).1) ((Bl.listT ii).2)),
  .sat (nK (r + 1) (some r2) (.node (1, 1, ByteArray.empty) .nil (.node ((Bl.listT ii).1) ((Bl.listT ii).2) .nil))),
  .sat (nT (r + 1) (some r2) (3, 0, ⟨#[46]⟩) (.node (1, 1, ByteArray.empty) .nil (.node ((Bl.listT ii).1) ((Bl.listT ii).2) .nil)))]
def l595aDs : List Nat := [11, 12, 13, 14]
def l595aEnv (s0 : Int) (r r2 ii : Nat) : Env := [(0, .val (.int .i64 s0)), (2, .sat (zC r r2)), (3, .sat (rC (r + 1) r2 ((Bl.listT ii).1) ((Bl.listT ii).2))), (4, .val (.int .i64 ((ii : Nat) : Int))), (990, .sat (gP (r + 1) (some r2)))]
theorem l595a_0 {Q : Exit → Act → World → Prop} (s0 : Int) (r r2 ii : Nat)  : RStep (strip l595Ops) Q (fun i => ((l595aEs s0 r r2 ii)[i]?).getD .any) (fun i => (l595aDs[i]?).getD (1000 + i)) (look (l595aEnv s0 r r2 ii)) 16 0 := fun _ => step_ln (g := 990) (by kernel_rfl) (Opd.const _) (Opd.of_base 990 rfl) rfl
theorem l595a_1 {Q : Exit → Act → World → Prop} (s0 : Int) (r r2 ii : Nat)  : RStep (strip l595Ops) Q (fun i => ((l595aEs s0 r r2 ii)[i]?).getD .any) (fun i => (l595aDs[i]?).getD (1000 + i)) (look (l595aEnv s0 r r2 ii)) 16 1 := fun _ => step_cload (by kernel_rfl) (Opd.of_base 3 rfl) rfl
theorem l595a_2 {Q : Exit → Act → World → Prop} (s0 : Int) (r r2 ii : Nat)  : RStep (strip l595Ops) Q (fun i => ((l595aEs s0 r r2 ii)[i]?).getD .any) (fun i => (l595aDs[i]?).getD (1000 + i)) (look (l595aEnv s0 r r2 ii)) 16 2 := fun _ => step_nslice2 (g := 990) (by kernel_rfl) (Opd.dep 0 rfl rfl (by kernel_rfl)) (Opd.dep 1 rfl rfl (by kernel_rfl)) (Opd.of_base 990 rfl) rfl
theorem l595a_3 {Q : Exit → Act → World → Prop} (s0 : Int) (r r2 ii : Nat)  : RStep (strip l595Ops) Q (fun i => ((l595aEs s0 r r2 ii)[i]?).getD .any) (fun i => (l595aDs[i]?).getD (1000 + i)) (look (l595aEnv s0 r r2 ii)) 16 3 := fun _ => step_lf (by kernel_rfl) (Opd.const _) (Opd.ofK (Opd.dep 2 rfl rfl (by kernel_rfl))) rfl
theorem l595a_region {Q : Exit → Act → World → Prop} (s0 : Int) (r r2 ii : Nat)  {w0 : World} {a : Act} {w : World} (hr2 : w0.heap.size ≤ r2) (h : Hold 16 [(0, .val (.int .i64 s0)), (2, .sat (zC r r2)), (3, .sat (rC (r + 1) r2 ((Bl.listT ii).1) ((Bl.listT ii).2))), (4, .val (.int .i64 ((ii : Nat) : Int))), (990, .sat (gP (r + 1) (some r2)))] w0 a w)
    (hQ : ∀ a' w', Hold 16 [(0, .val (.int .i64 s0)), (2, .sat (zC r r2)), (4, .val (.int .i64 ((ii : Nat) : Int))), (990, .sat (gP (r + 1) (some r2))), (3, .sat (rC (r + 1) r2 (3, 0, ⟨#[46]⟩) (.node (1, 1, ByteArray.empty) .nil (.node ((Bl.listT ii).1) ((Bl.listT ii).2) .nil))))] w0 a' w' → Q .normal a' w') : (Code.region 5 l595Ops true).wp Try.prog Q a w := by
  have hall : ∀ i, i < 0 → RStep (strip l595Ops) Q (fun i => ((l595aEs s0 r r2 ii)[i]?).getD .any) (fun i => (l595aDs[i]?).getD (1000 + i)) (look (l595aEnv s0 r r2 ii)) 16 i := fun i hi => absurd hi (by omega)
  have hall := below_succ hall (l595a_0 s0 r r2 ii )
  have hall := below_succ hall (l595a_1 s0 r r2 ii )
  have hall := below_succ hall (l595a_2 s0 r r2 ii )
  have hall := below_succ hall (l595a_3 s0 r r2 ii )
  refine env_then (m := 4) (n := 5) l595aDs (l595aEs s0 r r2 ii) rfl (by kernel_rfl) (by decide) (by kernel_rfl) (of_decide_eq_true (by kernel_rfl)) (by kernel_rfl) (by kernel_rfl) (fun i_ hi_ => hall i_ hi_) h fun a w h => ?_
  clear hall
  have h := h.keep [0, 2, 3, 4, 990, 11, 12, 13, 14]
  show wpOps Try.prog _ Q [4] a w
  refine env_store (i := 4) (x := 3) (y := 14) (r := r2) [(0, .val (.int .i64 s0)), (2, .sat (zC r r2)), (4, .val (.int .i64 ((ii : Nat) : Int))), (990, .sat (gP (r + 1) (some r2))), (11, .sat (nT (r + 1) (some r2) (1, 1, ByteArray.empty) .nil)), (12, .sat (nT (r + 1) (some r2) ((Bl.listT ii).1) ((Bl.listT ii).2))), (13, .sat (nK (r + 1) (some r2) (.node (1, 1, ByteArray.empty) .nil (.node ((Bl.listT ii).1) ((Bl.listT ii).2) .nil)))), (14, .sat (nT (r + 1) (some r2) (3, 0, ⟨#[46]⟩) (.node (1, 1, ByteArray.empty) .nil (.node ((Bl.listT ii).1) ((Bl.listT ii).2) .nil))))] (by kernel_rfl) rfl rfl hr2 (stays_cons 0 rfl (away_val _ _) (stays_cons 2 rfl (away_zC _ _) (stays_cons 4 rfl (away_val _ _) (stays_cons 990 rfl (away_gP _ _ _) (stays_cons 11 rfl (away_nT _ _ _ _) (stays_cons 12 rfl (away_nT _ _ _ _) (stays_cons 13 rfl (away_nK _ _ _) (stays_cons 14 rfl (away_nT _ _ _ _) (stays_nil _ _))))))))) h ?_
  clear h
  intro a w h
  exact hQ a w (h.keep [0, 2, 4, 990, 3])
theorem l594a_region {Q : Exit → Act → World → Prop} (s0 : Int) (r r2 ii : Nat) (hi2 : ii < 100000) {w0 : World} {a : Act} {w : World} (h : Hold 16 [(0, .val (.int .i64 s0)), (2, .sat (zC r r2)), (3, .sat (rC (r + 1) r2 ((Bl.listT (ii + 1)).1) ((Bl.listT (ii + 1)).2))), (4, .val (.int .i64 ((ii : Nat) : Int))), (990, .sat (gP (r + 1) (some r2)))] w0 a w)
    (hQ : ∀ a' w', Hold 16 [(0, .val (.int .i64 s0)), (2, .sat (zC r r2)), (3, .sat (rC (r + 1) r2 ((Bl.listT (ii + 1)).1) ((Bl.listT (ii + 1)).2))), (4, .val (.int .i64 ((ii + 1 : Nat) : Int))), (990, .sat (gP (r + 1) (some r2)))] w0 a' w' → Q .normal a' w') : (Code.region 4 l594Ops false).wp Try.prog Q a w := by
  refine region_seq (w0 := w) 3 (by kernel_rfl) ?_
  rw [show List.range 3 = [0, 1, 2] from rfl]
  refine env_one (i := 0) (d := 9) (k := .val (.int .i64 ((ii : Nat) : Int))) (step_move (by kernel_rfl) (Opd.of_base 4 rfl) rfl) (by kernel_rfl) (by decide) h ?_
  clear h
  intro a w h
  refine env_one (i := 1) (d := 10) (k := .val (.int .i64 ((ii + 1 : Nat) : Int))) (step_add (m := ((ii : Nat) : Int)) (n := 1) (s := ((ii + 1 : Nat) : Int)) (by kernel_rfl) (Opd.of_base 9 rfl) (Opd.const _) (by rw [IntKind.wrap_i64]; omega) rfl) (by kernel_rfl) (by decide) h ?_
  clear h
  intro a w h
  refine env_one (i := 2) (d := 4) (k := .val (.int .i64 ((ii + 1 : Nat) : Int))) (step_assign (by kernel_rfl) (Opd.of_base 10 rfl) rfl) (by kernel_rfl) (by decide) h ?_
  clear h
  intro a w h
  exact hQ a w (h.keep [0, 2, 3, 4, 990])

theorem l59_1 {Q : Exit → Act → World → Prop} (s0 : Int) (nb r : Nat) {w0 : World} {a : Act} {w : World} (h : Hold 16 [(2, .sat (rC nb r zp .nil)), (0, .val (.int .i64 s0)), (990, .sat (gP nb (some r)))] w0 a w)
    (hQ : ∀ r2 a' w', w0.heap.size ≤ r2 → Hold 16 [(0, .val (.int .i64 s0)), (2, .sat (zC r r2)), (3, .sat (rC (r + 1) r2 ((Bl.listT 0).1) ((Bl.listT 0).2))), (990, .sat (gP (r + 1) (some r2)))] w0 a' w' → Q .normal a' w') : (Code.region 1 l591Ops false).wp Try.prog Q a w := by
  refine region_seq (w0 := w) 3 (by kernel_rfl) ?_
  rw [show List.range 3 = [0, 1, 2] from rfl]
  refine env_one (i := 0) (d := 5) (k := .sat (nT nb (some r) (2, 0, ⟨#[91, 93]⟩) .nil)) (step_la (g := 990) (by kernel_rfl) (Opd.const _) (Opd.of_base 990 rfl) rfl) (by kernel_rfl) (by decide) h ?_
  clear h
  intro a w h
  refine env_res2 (i := 1) (d := 3) (x := 2) (n := nb) (r := r) (fun r2 => [(0, .val (.int .i64 s0)), (2, .sat (zC r r2)), (5, .sat (nT (r + 1) (some r2) (2, 0, ⟨#[91, 93]⟩) .nil))]) (by kernel_rfl) (by decide) rfl (fun r2 => goes_cons 0 rfl (turns_val _ _) (goes_cons 2 rfl (turns_zC _ _ _) (goes_cons 5 rfl (turns_leaf _ _ _ _ _) (goes_nil _ _)))) h ?_
  clear h
  intro r2 a w hr2 h
  refine env_store (i := 2) (x := 3) (y := 5) (r := r2) [(0, .val (.int .i64 s0)), (2, .sat (zC r r2)), (990, .sat (gP (r + 1) (some r2)))] (by kernel_rfl) rfl rfl hr2 (stays_cons 0 rfl (away_val _ _) (stays_cons 2 rfl (away_zC _ _) (stays_cons 990 rfl (away_gP _ _ _) (stays_nil _ _)))) h ?_
  clear h
  intro a w h
  exact hQ r2 a w hr2 (h.keep [0, 2, 3, 990])
theorem l59_6 {Q : Exit → Act → World → Prop} (s0 : Int) (r r2 i : Nat) {w0 : World} {a : Act} {w : World} (hr : w0.heap.size ≤ r) (h : Hold 16 [(0, .val (.int .i64 s0)), (2, .sat (zC r r2)), (3, .sat (rC (r + 1) r2 ((Bl.listT i).1) ((Bl.listT i).2))), (4, .val (.int .i64 ((i : Nat) : Int))), (990, .sat (gP (r + 1) (some r2)))] w0 a w)
    (hQ : ∀ a' w', Hold 16 [(2, .sat (rC (r + 1) r (Bl.listT i).1 (Bl.listT i).2))] w0 a' w' → Q .normal a' w') : (Code.region 6 l596Ops false).wp Try.prog Q a w := by
  refine region_seq (w0 := w) 2 (by kernel_rfl) ?_
  rw [show List.range 2 = [0, 1] from rfl]
  refine env_one (i := 0) (d := 15) (k := .sat (nT (r + 1) (some r2) (Bl.listT i).1 (Bl.listT i).2)) (step_cload (by kernel_rfl) (Opd.of_base 3 rfl) rfl) (by kernel_rfl) (by decide) h ?_
  clear h
  intro a w h
  refine env_storeZ (i := 1) (x := 2) (y := 15) (r := r) (r2 := r2) (by kernel_rfl) rfl rfl hr h ?_
  clear h
  intro a w h
  exact hQ a w h
set_option maxHeartbeats 1000000 in
theorem l59_any (s0 : Int) (w : World) (hs : s0 ≤ 100000) : Calls Try.prog 59 #[.int .i64 s0] w (Makes (Bl.listT s0.toNat).1 (Bl.listT s0.toNat).2 w) := by
  refine calls_of_wp Try.func59 l59_body ?_
  obtain ⟨v0, hv0⟩ : ∃ v : Value, v = .int .i64 s0 := ⟨_, rfl⟩
  rw [← hv0]
  have hk0 : (Kd.val (.int .i64 s0)).R v0 w := hv0
  have hsN : (#[v0] ++ Array.replicate (Try.f59.ntmps - #[v0].size) undef : Array Value).size = 16 := by kernel_rfl
  have gs0 : (#[v0] ++ Array.replicate (Try.f59.ntmps - #[v0].size) undef : Array Value).getD 0 undef = v0 := by kernel_rfl
  generalize (#[v0] ++ Array.replicate (Try.f59.ntmps - #[v0].size) undef : Array Value) = tm at hsN gs0 ⊢
  have h : Hold 16 [(0, .val (.int .i64 s0))] w ⟨tm, []⟩ w := ⟨hsN, rfl, Below.refl _ _, slots_cons 0 (by rw [gs0]; exact hk0) slots_nil⟩
  obtain ⟨nb, hnb⟩ : ∃ nb, nb = w.heap.size := ⟨_, rfl⟩
  have hn : nb ≤ w.heap.size := by omega
  refine wp_seq ?_
  refine l590a_region s0 nb  hn h ?_
  intro r a w1 hr h
  show Code.wp _ _ _ a w1
  refine wp_seq ?_
  have h := h.keep [2, 0, 990]
  refine l59_1 s0 nb r h ?_
  intro r2 a w1 hr2 h
  show Code.wp _ _ _ a w1
  refine wp_seq ?_
  refine wp_seq ?_
  refine region_seq (w0 := w1) 1 (by kernel_rfl) ?_
  rw [show List.range 1 = [0] from rfl]
  refine env_one (i := 0) (d := 4) (k := .val (.int .i64 ((0 : Nat) : Int))) (step_assign (by kernel_rfl) (Opd.const _) rfl) (by kernel_rfl) (by decide) h ?_
  clear h
  intro a w1 h
  have h := h.keep [0, 2, 3, 4, 990]
  show Code.wp _ _ _ a w1
  refine wp_block ?_
  refine wp_for (n := s0.toNat) (fun i a w1 => Hold 16 [(0, .val (.int .i64 s0)), (2, .sat (zC r r2)), (3, .sat (rC (r + 1) r2 ((Bl.listT i).1) ((Bl.listT i).2))), (4, .val (.int .i64 ((i : Nat) : Int))), (990, .sat (gP (r + 1) (some r2)))] w a w1) h ?_ ?_
  · intro i a w1 hi h
    refine wp_seq ?_
    refine wp_seq ?_
    have hlt : ((i : Nat) : Int) < s0 := by omega
    refine l593a_region s0 r r2 i hlt h ?_
    intro a w1 h
    refine env_cond (b := true) rfl h ?_
    refine wp_skip ?_
    have h := h.keep [0, 2, 3, 4, 990]
    show Code.wp _ _ _ a w1
    refine wp_seq ?_
    refine wp_block ?_
    refine l595a_region s0 r r2 i  hr2 h ?_
    intro a w1 h
    have h : Hold 16 [(0, .val (.int .i64 s0)), (2, .sat (zC r r2)), (3, .sat (rC (r + 1) r2 ((Bl.listT (i + 1)).1) ((Bl.listT (i + 1)).2))), (4, .val (.int .i64 ((i : Nat) : Int))), (990, .sat (gP (r + 1) (some r2)))] w a w1 := h.keep [0, 2, 3, 4, 990]
    show Code.wp _ _ _ a w1
    have hi2 : i < 100000 := by omega
    refine l594a_region s0 r r2 i hi2 h ?_
    intro a w1 h
    exact h.keep [0, 2, 3, 4, 990]
  · intro a w1 h
    refine wp_seq ?_
    refine wp_seq ?_
    have hlt : ¬ ((s0.toNat : Nat) : Int) < s0 := by omega
    refine l593b_region s0 r r2 s0.toNat hlt h ?_
    intro a w1 h
    refine env_cond (b := false) rfl h ?_
    refine wp_exit ?_
    have h := h.keep [0, 2, 3, 4, 990]
    show Code.wp _ _ _ a w1
    refine wp_seq ?_
    refine l59_6 s0 r r2 s0.toNat hr h ?_
    intro a w1 h
    show Code.wp _ _ _ a w1
    refine wp_ret ?_
    (try simp only [then_ret, block_ret])
    exact law_cell rfl (h.get 2 rfl) h.defers fun A c ha => ⟨A, c, rfl, ha.mono fun b hb => ⟨by have := hb.1; omega, hb.2.1⟩, h.world⟩
end Go.Proofs.Ytapcnehpechkpaa
