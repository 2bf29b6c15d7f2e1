/-
  The reference's List, Char and Code.
-/
import Derived.Test.YtapcnehpechkpaaRefChk
import Derived.Test.YtapcnehpechkpaaElems6
import Derived.Test.YtapcnehpechkpaaFacts6
namespace Go.Proofs.Ytapcnehpechkpaa
set_option linter.unusedVariables false
set_option linter.unusedSimpArgs false
set_option maxRecDepth 100000
open Go.RowKit
theorem nbox_R {n : Nat} {G : Option Nat} (w : World) (p : Pay) (l : Fo) (A : Option Addr) (c : Nat) (ha : ArgsIn (Ns n G w) w A (Tm.len l) l) (hg : n ≤ w.heap.size ∧ ∀ r, G = some r → r < w.heap.size) : (Kd.sat (nP n G p l)).R (.pointer (some ⟨w.heap.size, 0, none⟩)) (w.alloc (.cells #[.int .i64 p.1, .int .i64 p.2.1, .string p.2.2, .slice A (Tm.len l) c] 24)) := by
  have ht := TermAt.new w p A (Tm.len l) c 24
  have hb : Below w.heap.size w (w.alloc (.cells #[.int .i64 p.1, .int .i64 p.2.1, .string p.2.2, .slice A (Tm.len l) c] 24)) := (Below.refl _ _).alloc (Nat.le_refl _) _
  exact ⟨w.heap.size, 0, A, c, rfl, ns_new hg (Nat.le_refl _) (by simp), ht.kind, ht.num, ht.name, ht.args, ha.ns hb⟩
section
variable {ops : Array Oper} {Q : Exit → Act → World → Prop} {N : Nat} {env : Env} {w0 w : World} {a : Act}
theorem env_nbox {n : Nat} {G : Option Nat} {i d s : Nat} {rest : List Nat} {p : Pay} {l : Fo} (hop : (ops[i]?).map (fun o => (o.op, o.dst, o.guard)) = some (.alloc 24, some d, none)) (hN : d < N)
    (hst : (ops[i + 1]?).map (fun o => (o.op, o.dst, o.guard)) = some (.store 24 (.tmp d) (.tmp s), none, none)) (hne : s ≠ d) (hs : look env s = some (.sat (nT n G p l))) (hgp : look env 990 = some (.sat (gP n G))) (st : Hold N env w0 a w)
    (h : ∀ a' w', Hold N ((d, .sat (nP n G p l)) :: env) w0 a' w' → wpOps Try.prog ops Q rest a' w') : wpOps Try.prog ops Q (i :: (i + 1) :: rest) a w := by
  cases ho : ops[i]? with
  | none => rw [ho] at hop; cases hop
  | some o =>
  cases ho2 : ops[i + 1]? with
  | none => rw [ho2] at hst; cases hst
  | some o2 =>
    rw [ho] at hop
    rw [ho2] at hst
    have hop := Option.some.inj hop
    have hst := Option.some.inj hst
    obtain ⟨dst, op, ty, pos, after, guard⟩ := o
    obtain ⟨dst2, op2, ty2, pos2, after2, guard2⟩ := o2
    simp only [Prod.mk.injEq] at hop hst
    obtain ⟨e1, e2, e3⟩ := hst
    obtain ⟨e4, e5, e6⟩ := hop
    subst e1 e2 e3 e4 e5 e6
    obtain ⟨A, c, e, ha⟩ := st.slots _ _ hs
    have hDi : d < a.tmps.size := by rw [st.size]; exact hN
    simp only [wpOps, ho, wanted_free (o := ⟨some d, _, ty, pos, after, none⟩) rfl, if_true]
    refine .inl (wp_alloc_op ?_)
    simp only [wpOps, ho2, wanted_free (o := ⟨none, _, ty2, pos2, after2, none⟩) rfl, if_true]
    have ev1 : (a.put (some d) (.pointer (some ⟨w.heap.size, 0, none⟩))).eval (.tmp d) = .pointer (some ⟨w.heap.size, 0, none⟩) := put_self hDi
    have ev2 : (a.put (some d) (.pointer (some ⟨w.heap.size, 0, none⟩))).eval (.tmp s) = tv p A (Tm.len l) c := (put_other hne).trans e
    refine .inl (wp_store_op p A (Tm.len l) c ev1 ev2 ?_)
    have hb : Below w.heap.size w (w.alloc (.cells #[.int .i64 p.1, .int .i64 p.2.1, .string p.2.2, .slice A (Tm.len l) c] 24)) := (Below.refl _ _).alloc (Nat.le_refl _) _
    exact h _ _ (st.put (k := .sat (nP n G p l)) hN (nbox_R w p l A c ha (st.slots _ _ hgp)) hb)
theorem env_nbox3 {n : Nat} {G : Option Nat} {i d s e x : Nat} {k : Kd} {rest : List Nat} {p : Pay} {l : Fo} (hop : (ops[i]?).map (fun o => (o.op, o.dst, o.guard)) = some (.alloc 24, some d, none)) (hN : d < N)
    (hop2 : (ops[i + 1]?).map (fun o => (o.op, o.dst, o.guard)) = some (.assign (.tmp x), some e, none)) (heN : e < N) (hx : look env x = some k) (hxd : x ≠ d) (hed : d ≠ e)
    (hst : (ops[i + 2]?).map (fun o => (o.op, o.dst, o.guard)) = some (.store 24 (.tmp d) (.tmp s), none, none)) (hne : s ≠ d) (hse : s ≠ e) (hs : look env s = some (.sat (nT n G p l))) (hgp : look env 990 = some (.sat (gP n G))) (st : Hold N env w0 a w)
    (h : ∀ a' w', Hold N ((e, k) :: (d, .sat (nP n G p l)) :: env) w0 a' w' → wpOps Try.prog ops Q rest a' w') : wpOps Try.prog ops Q (i :: (i + 1) :: (i + 2) :: rest) a w := by
  cases ho : ops[i]? with
  | none => rw [ho] at hop; cases hop
  | some o =>
  cases hoa : ops[i + 1]? with
  | none => rw [hoa] at hop2; cases hop2
  | some oa =>
  cases ho2 : ops[i + 2]? with
  | none => rw [ho2] at hst; cases hst
  | some o2 =>
    rw [ho] at hop
    rw [hoa] at hop2
    rw [ho2] at hst
    have hop := Option.some.inj hop
    have hop2 := Option.some.inj hop2
    have hst := Option.some.inj hst
    obtain ⟨dst, op, ty, pos, after, guard⟩ := o
    obtain ⟨dsta, opa, tya, posa, aftera, guarda⟩ := oa
    obtain ⟨dst2, op2, ty2, pos2, after2, guard2⟩ := o2
    simp only [Prod.mk.injEq] at hop hop2 hst
    obtain ⟨e1, e2, e3⟩ := hst
    obtain ⟨e4, e5, e6⟩ := hop
    obtain ⟨e7, e8, e9⟩ := hop2
    subst e1 e2 e3 e4 e5 e6 e7 e8 e9
    obtain ⟨A, c, ev, ha⟩ := st.slots _ _ hs
    have hDi : d < a.tmps.size := by rw [st.size]; exact hN
    simp only [wpOps, ho, wanted_free (o := ⟨some d, _, ty, pos, after, none⟩) rfl, if_true]
    refine .inl (wp_alloc_op ?_)
    simp only [wpOps, hoa, wanted_free (o := ⟨some e, _, tya, posa, aftera, none⟩) rfl, if_true]
    refine .inl (wp_assign_op ?_)
    have evm : (a.put (some d) (.pointer (some ⟨w.heap.size, 0, none⟩))).eval (.tmp x) = a.tmps.getD x undef := put_other hxd
    rw [evm]
    simp only [wpOps, ho2, wanted_free (o := ⟨none, _, ty2, pos2, after2, none⟩) rfl, if_true]
    have ev1 : ((a.put (some d) (.pointer (some ⟨w.heap.size, 0, none⟩))).put (some e) (a.tmps.getD x undef)).eval (.tmp d) = .pointer (some ⟨w.heap.size, 0, none⟩) := (put_other hed).trans (put_self hDi)
    have ev2 : ((a.put (some d) (.pointer (some ⟨w.heap.size, 0, none⟩))).put (some e) (a.tmps.getD x undef)).eval (.tmp s) = tv p A (Tm.len l) c := (put_other hse).trans ((put_other hne).trans ev)
    refine .inl (wp_store_op p A (Tm.len l) c ev1 ev2 ?_)
    have hb : Below w.heap.size w (w.alloc (.cells #[.int .i64 p.1, .int .i64 p.2.1, .string p.2.2, .slice A (Tm.len l) c] 24)) := (Below.refl _ _).alloc (Nat.le_refl _) _
    have s1 := st.put (k := .sat (nP n G p l)) hN (nbox_R w p l A c ha (st.slots _ _ hgp)) hb
    exact h _ _ (s1.put (k := k) (v := a.tmps.getD x undef) heN (Kd.keep (st.slots _ _ hx) hb) (Below.refl _ _))

end
def nL2 (n : Nat) (G : Option Nat) (F : Fo) (p : Pay) (l : Fo) : Pd where
  R := fun v w => ∃ A c A' c', v = .tuple #[.slice A' (Tm.len F) c', tv p A (Tm.len l) c] ∧ ArgsIn (Ns n G w) w A (Tm.len l) l ∧ ArgsIn (Ns n G w) w A' (Tm.len F) F
  keep := by rintro v w w' ⟨A, c, A', c', e, h, h'⟩ hb; exact ⟨A, c, A', c', e, h.ns hb, h'.ns hb⟩
section
variable {ops : Array Oper} {Q : Exit → Act → World → Prop} {E : Nat → Kd} {D : Nat → Nat} {base : Nat → Option Kd} {N : Nat}
theorem step_nL2_0 {i n : Nat} {G : Option Nat} {z : Operand} {F : Fo} {p : Pay} {l : Fo} (hop : (ops[i]?).map (·.op) = some (.extract z 0)) (hx : Opd ops E D base N i z (.sat (nL2 n G F p l))) (hE : E i = .sat (nR n G F)) : Step Try.prog ops Q E D base N i :=
  step_still hop hE fun a w h dst ty' pos after guard => by
    obtain ⟨A, c, A', c', e, ha, ha'⟩ := hx a w h
    refine ⟨.slice A' (Tm.len F) c', ?_, A', c', rfl, ha'⟩
    unfold execOp
    simp only [e]
    go_simp
theorem step_nL2_1 {i n : Nat} {G : Option Nat} {z : Operand} {F : Fo} {p : Pay} {l : Fo} (hop : (ops[i]?).map (·.op) = some (.extract z 1)) (hx : Opd ops E D base N i z (.sat (nL2 n G F p l))) (hE : E i = .sat (nT n G p l)) : Step Try.prog ops Q E D base N i :=
  step_still hop hE fun a w h dst ty' pos after guard => by
    obtain ⟨A, c, A', c', e, ha, ha'⟩ := hx a w h
    refine ⟨tv p A (Tm.len l) c, ?_, A, c, rfl, ha⟩
    unfold execOp
    simp only [e]
    go_simp
theorem step_relems {i n g : Nat} {G : Option Nat} {x : Operand} {p : Pay} {l : Fo} (hv : Tm.validB p l = true) (hop : (ops[i]?).map (·.op) = some (.call { callee := .value (.func 74), args := #[x], argTypes := #[24] })) (hx : Opd ops E D base N i x (.term p l)) (hg : Opd ops E D base N i (.tmp g) (.sat (gP n G))) (hE : E i = .sat (nL2 n G (Tm.elemsOf p l).1 (Tm.elemsOf p l).2.1 (Tm.elemsOf p l).2.2)) : Step Try.prog ops Q E D base N i :=
  step_call hop (fun _ _ => by kernel_rfl) fun a w h => by
    obtain ⟨A, c, e, ha⟩ := hx a w h
    rw [show (#[x] : Array Operand).map a.eval = #[tv p A (Tm.len l) c] by rw [← e]; simp]
    have ee : Tm.elemsFn p l = Tm.elemsOf p l := by unfold Tm.elemsFn; rw [if_pos hv]
    have := relems_any p l A c w.heap.size w ha (Nat.le_refl _)
    rw [ee] at this
    exact this.mono fun e w' ⟨A1, c1, A2, c2, he, h1, h2, hb⟩ => ⟨_, he, by rw [hE]; exact ⟨A2, c2, A1, c1, rfl, h2.mono fun b hb' => ns_new (hg a w h) hb'.1 hb'.2, h1.mono fun b hb' => ns_new (hg a w h) hb'.1 hb'.2⟩, hb⟩
end
noncomputable def rList60Ops : Array Oper := ((Try.f44.body).bind (findReg 0)).getD #[]
noncomputable def rList61Ops : Array Oper := ((Try.f44.body).bind (findReg 1)).getD #[]
noncomputable def rList62Ops : Array Oper := ((Try.f44.body).bind (findReg 2)).getD #[]
noncomputable def rList63Ops : Array Oper := ((Try.f44.body).bind (findReg 3)).getD #[]
noncomputable def rList64Ops : Array Oper := ((Try.f44.body).bind (findReg 4)).getD #[]
noncomputable def rList65Ops : Array Oper := ((Try.f44.body).bind (findReg 5)).getD #[]
noncomputable def rList66Ops : Array Oper := ((Try.f44.body).bind (findReg 6)).getD #[]
noncomputable def rList67Ops : Array Oper := ((Try.f44.body).bind (findReg 7)).getD #[]
noncomputable def rList68Ops : Array Oper := ((Try.f44.body).bind (findReg 8)).getD #[]
theorem rList6_body : Try.f44.body = some (.seq (.region 0 rList60Ops false) (.seq (.seq (.region 1 rList61Ops false) (.cond (.tmp 9) (.seq (.region 2 rList62Ops false) .ret) .skip)) (.seq (.region 3 rList63Ops false) (.seq (.seq (.region 4 rList64Ops false) (.cond (.tmp 18) (.seq (.region 5 rList65Ops false) .ret) .skip)) (.seq (.seq (.region 6 rList66Ops false) (.cond (.tmp 27) (.seq (.region 7 rList67Ops false) .ret) .skip)) (.seq (.region 8 rList68Ops false) .ret)))))) := by kernel_rfl
theorem rList60a_region {Q : Exit → Act → World → Prop} (p0 : Pay) (l0 : Fo) (nb : Nat)  {w0 : World} {a : Act} {w : World} (hn : nb ≤ w0.heap.size) (h : Hold 32 [(0, .term p0 l0)] w0 a w)
    (hQ : ∀ r a' w', w0.heap.size ≤ r → Hold 32 [(1, .sat (nP 0 (some r) p0 l0)), (2, .sat (nR 0 (some r) .nil)), (3, .sat (rC nb r zp .nil)), (990, .sat (gP nb (some r))), (4, .val (.bool false))] w0 a' w' → Q .normal a' w') : (Code.region 0 rList60Ops false).wp Try.prog Q a w := by
  refine region_seq (w0 := w) 4 (by kernel_rfl) ?_
  rw [show List.range 4 = [0, 1, 2, 3] from rfl]
  refine env_one (i := 0) (d := 1) (k := .ptrT p0 l0) (step_box (by kernel_rfl) (Opd.of_base 0 rfl) rfl) (by kernel_rfl) (by decide) h ?_
  clear h
  intro a w h
  refine env_one (i := 1) (d := 2) (k := .sat (nR 0 none .nil)) (step_assign (by kernel_rfl) (Opd.ofK (Opd.nilK (n := 0) (G := none) (Opd.const _))) rfl) (by kernel_rfl) (by decide) h ?_
  clear h
  intro a w h
  refine env_res (i := 2) (d := 3) (n := nb) (fun r => [(0, .sat (nT 0 (some r) p0 l0)), (1, .sat (nP 0 (some r) p0 l0)), (2, .sat (nR 0 (some r) .nil))]) (by kernel_rfl) (by decide) (by decide) hn (fun r => (goes_cons 0 rfl (turns_term _ _ _) (goes_cons 1 rfl (turns_ptr _ _ _) (goes_cons 2 rfl (turns_nR _ _ _) (goes_nil _ _))))) h ?_
  clear h
  intro r a w hr h
  refine env_one (i := 3) (d := 4) (k := .val (.bool false)) (step_assign (by kernel_rfl) (Opd.const _) rfl) (by kernel_rfl) (by decide) h ?_
  clear h
  intro a w h
  exact hQ r a w hr (h.keep [1, 2, 3, 990, 4])
theorem rList61a_region {Q : Exit → Act → World → Prop} (p0 : Pay) (l0 : Fo) (nb r : Nat)  {w0 : World} {a : Act} {w : World} (hr : w0.heap.size ≤ r) (h : Hold 32 [(1, .sat (nP 0 (some r) p0 l0)), (2, .sat (nR 0 (some r) .nil)), (3, .sat (rC nb r zp .nil)), (990, .sat (gP nb (some r))), (4, .val (.bool false))] w0 a w)
    (hQ : ∀ a' w', Hold 32 [(1, .sat (nP 0 (some r) p0 l0)), (2, .sat (nR 0 (some r) .nil)), (3, .sat (rC nb r zp .nil)), (990, .sat (gP nb (some r))), (4, .val (.bool false)), (9, .val (.bool (!(Tm.validB p0 l0))))] w0 a' w' → Q .normal a' w') : (Code.region 1 rList61Ops false).wp Try.prog Q a w := by
  refine region_seq (w0 := w) 3 (by kernel_rfl) ?_
  rw [show List.range 3 = [0, 1, 2] from rfl]
  refine env_one (i := 0) (d := 7) (k := .sat (nT 0 (some r) p0 l0)) (step_nload (by kernel_rfl) (Opd.of_base 1 rfl) rfl) (by kernel_rfl) (by decide) h ?_
  clear h
  intro a w h
  refine env_one (i := 1) (d := 8) (k := .val (.bool (Tm.validB p0 l0))) (step_rvalid6 (by kernel_rfl) (Opd.ofT (Opd.of_base 7 rfl)) rfl) (by kernel_rfl) (by decide) h ?_
  clear h
  intro a w h
  refine env_one (i := 2) (d := 9) (k := .val (.bool (!(Tm.validB p0 l0)))) (step_not (by kernel_rfl) (Opd.of_base 8 rfl) rfl) (by kernel_rfl) (by decide) h ?_
  clear h
  intro a w h
  exact hQ a w (h.keep [1, 2, 3, 990, 4, 9])
theorem rList63a_region {Q : Exit → Act → World → Prop} (p0 : Pay) (l0 : Fo) (nb r : Nat) (hv : Tm.validB p0 l0 = true) {w0 : World} {a : Act} {w : World} (hr : w0.heap.size ≤ r) (h : Hold 32 [(1, .sat (nP 0 (some r) p0 l0)), (2, .sat (nR 0 (some r) .nil)), (3, .sat (rC nb r zp .nil)), (990, .sat (gP nb (some r))), (4, .val (.bool false))] w0 a w)
    (hQ : ∀ a' w', Hold 32 [(1, .sat (nP 0 (some r) p0 l0)), (2, .sat (nR 0 (some r) .nil)), (3, .sat (rC nb r zp .nil)), (990, .sat (gP nb (some r))), (4, .val (.bool false)), (6, .sat (nP nb (some r) ((Tm.elemsOf p0 l0).2.1) ((Tm.elemsOf p0 l0).2.2))), (5, .sat (nR nb (some r) ((Tm.elemsOf p0 l0).1)))] w0 a' w' → Q .normal a' w') : (Code.region 3 rList63Ops false).wp Try.prog Q a w := by
  refine region_seq (w0 := w) 8 (by kernel_rfl) ?_
  rw [show List.range 8 = [0, 1, 2, 3, 4, 5, 6, 7] from rfl]
  refine env_one (i := 0) (d := 12) (k := .sat (nT 0 (some r) p0 l0)) (step_nload (by kernel_rfl) (Opd.of_base 1 rfl) rfl) (by kernel_rfl) (by decide) h ?_
  clear h
  intro a w h
  refine env_one (i := 1) (d := 13) (k := .sat (nL2 nb (some r) ((Tm.elemsOf p0 l0).1) ((Tm.elemsOf p0 l0).2.1) ((Tm.elemsOf p0 l0).2.2))) (step_relems (g := 990) hv (by kernel_rfl) (Opd.ofT (Opd.of_base 12 rfl)) (Opd.of_base 990 rfl) rfl) (by kernel_rfl) (by decide) h ?_
  clear h
  intro a w h
  refine env_one (i := 2) (d := 11) (k := .sat (nL2 nb (some r) ((Tm.elemsOf p0 l0).1) ((Tm.elemsOf p0 l0).2.1) ((Tm.elemsOf p0 l0).2.2))) (step_move (by kernel_rfl) (Opd.of_base 13 rfl) rfl) (by kernel_rfl) (by decide) h ?_
  clear h
  intro a w h
  refine env_one (i := 3) (d := 14) (k := .sat (nR nb (some r) ((Tm.elemsOf p0 l0).1))) (step_nL2_0 (by kernel_rfl) (Opd.of_base 11 rfl) rfl) (by kernel_rfl) (by decide) h ?_
  clear h
  intro a w h
  refine env_one (i := 4) (d := 15) (k := .sat (nT nb (some r) ((Tm.elemsOf p0 l0).2.1) ((Tm.elemsOf p0 l0).2.2))) (step_nL2_1 (by kernel_rfl) (Opd.of_base 11 rfl) rfl) (by kernel_rfl) (by decide) h ?_
  clear h
  intro a w h
  refine env_nbox3 (i := 5) (d := 6) (e := 5) (by kernel_rfl) (by decide) (by kernel_rfl) (by decide) (x := 14) rfl (by decide) (by decide) (by kernel_rfl) (by decide) (by decide) (s := 15) rfl rfl h ?_
  clear h
  intro a w h
  exact hQ a w (h.keep [1, 2, 3, 990, 4, 6, 5])
theorem rList64a_region {Q : Exit → Act → World → Prop} (p0 : Pay) (l0 : Fo) (nb r : Nat) (h1 : (Tm.elemsOf p0 l0).2.1.1 = 0) {w0 : World} {a : Act} {w : World} (hr : w0.heap.size ≤ r) (h : Hold 32 [(1, .sat (nP 0 (some r) p0 l0)), (2, .sat (nR 0 (some r) .nil)), (3, .sat (rC nb r zp .nil)), (990, .sat (gP nb (some r))), (4, .val (.bool false)), (6, .sat (nP nb (some r) ((Tm.elemsOf p0 l0).2.1) ((Tm.elemsOf p0 l0).2.2))), (5, .sat (nR nb (some r) ((Tm.elemsOf p0 l0).1)))] w0 a w)
    (hQ : ∀ a' w', Hold 32 [(1, .sat (nP 0 (some r) p0 l0)), (2, .sat (nR 0 (some r) .nil)), (3, .sat (rC nb r zp .nil)), (990, .sat (gP nb (some r))), (4, .val (.bool false)), (6, .sat (nP nb (some r) ((Tm.elemsOf p0 l0).2.1) ((Tm.elemsOf p0 l0).2.2))), (5, .sat (nR nb (some r) ((Tm.elemsOf p0 l0).1))), (18, .val (.bool true))] w0 a' w' → Q .normal a' w') : (Code.region 4 rList64Ops false).wp Try.prog Q a w := by
  refine region_seq (w0 := w) 3 (by kernel_rfl) ?_
  rw [show List.range 3 = [0, 1, 2] from rfl]
  refine env_one (i := 0) (d := 16) (k := .ptrI ((Tm.elemsOf p0 l0).2.1.1)) (step_field0 (by kernel_rfl) (Opd.ofP (Opd.of_base 6 rfl)) rfl) (by kernel_rfl) (by decide) h ?_
  clear h
  intro a w h
  refine env_one (i := 1) (d := 17) (k := .val (.int .i64 ((Tm.elemsOf p0 l0).2.1.1))) (step_load_int3 (by kernel_rfl) (Opd.of_base 16 rfl) rfl) (by kernel_rfl) (by decide) h ?_
  clear h
  intro a w h
  refine env_one (i := 2) (d := 18) (k := .val (.bool true)) (step_eqb_int (m := ((Tm.elemsOf p0 l0).2.1.1)) (n := 0) (by kernel_rfl) (Opd.of_base 17 rfl) (Opd.const _) (by rw [h1]; rfl) rfl) (by kernel_rfl) (by decide) h ?_
  clear h
  intro a w h
  exact hQ a w (h.keep [1, 2, 3, 990, 4, 6, 5, 18])
theorem rList65a_region {Q : Exit → Act → World → Prop} (p0 : Pay) (l0 : Fo) (nb r : Nat)  {w0 : World} {a : Act} {w : World} (hr : w0.heap.size ≤ r) (h : Hold 32 [(1, .sat (nP 0 (some r) p0 l0)), (2, .sat (nR 0 (some r) .nil)), (3, .sat (rC nb r zp .nil)), (990, .sat (gP nb (some r))), (4, .val (.bool false)), (6, .sat (nP nb (some r) ((Tm.elemsOf p0 l0).2.1) ((Tm.elemsOf p0 l0).2.2))), (5, .sat (nR nb (some r) ((Tm.elemsOf p0 l0).1)))] w0 a w)
    (hQ : ∀ a' w', Hold 32 [(1, .sat (nP 0 (some r) p0 l0)), (2, .sat (nR nb (some r) .nil)), (990, .sat (gP nb (some r))), (4, .val (.bool false)), (6, .sat (nP nb (some r) ((Tm.elemsOf p0 l0).2.1) ((Tm.elemsOf p0 l0).2.2))), (5, .sat (nR nb (some r) ((Tm.elemsOf p0 l0).1))), (3, .sat (rC nb r Bl.inst.1 Bl.inst.2))] w0 a' w' → Q .normal a' w') : (Code.region 5 rList65Ops false).wp Try.prog Q a w := by
  refine region_seq (w0 := w) 4 (by kernel_rfl) ?_
  rw [show List.range 4 = [0, 1, 2, 3] from rfl]
  refine env_one (i := 0) (d := 19) (k := .sat (nT nb (some r) Bl.inst.1 Bl.inst.2)) (step_rInst (g := 990) (by kernel_rfl)  (Opd.of_base 990 rfl) rfl) (by kernel_rfl) (by decide) h ?_
  clear h
  intro a w h
  refine env_one (i := 1) (d := 2) (k := .sat (nR nb (some r) .nil)) (step_assign (by kernel_rfl) (Opd.ofK (Opd.nilK (n := nb) (G := (some r)) (Opd.const _))) rfl) (by kernel_rfl) (by decide) h ?_
  clear h
  intro a w h
  refine env_store (i := 2) (x := 3) (y := 19) (r := r) [(1, .sat (nP 0 (some r) p0 l0)), (2, .sat (nR nb (some r) .nil)), (990, .sat (gP nb (some r))), (4, .val (.bool false)), (6, .sat (nP nb (some r) ((Tm.elemsOf p0 l0).2.1) ((Tm.elemsOf p0 l0).2.2))), (5, .sat (nR nb (some r) ((Tm.elemsOf p0 l0).1))), (19, .sat (nT nb (some r) Bl.inst.1 Bl.inst.2))] (by kernel_rfl) rfl rfl hr (stays_cons 1 rfl (away_nP _ _ _ _) (stays_cons 2 rfl (away_nR _ _ _) (stays_cons 990 rfl (away_gP _ _ _) (stays_cons 4 rfl (away_val _ _) (stays_cons 6 rfl (away_nP _ _ _ _) (stays_cons 5 rfl (away_nR _ _ _) (stays_cons 19 rfl (away_nT _ _ _ _) (stays_nil _ _)))))))) h ?_
  clear h
  intro a w h
  refine env_one (i := 3) (d := 4) (k := .val (.bool false)) (step_assign (by kernel_rfl) (Opd.const _) rfl) (by kernel_rfl) (by decide) h ?_
  clear h
  intro a w h
  exact hQ a w (h.keep [1, 2, 990, 4, 6, 5, 3])
theorem rList64b_region {Q : Exit → Act → World → Prop} (p0 : Pay) (l0 : Fo) (nb r : Nat) (h1 : ¬ (Tm.elemsOf p0 l0).2.1.1 = 0) {w0 : World} {a : Act} {w : World} (hr : w0.heap.size ≤ r) (h : Hold 32 [(1, .sat (nP 0 (some r) p0 l0)), (2, .sat (nR 0 (some r) .nil)), (3, .sat (rC nb r zp .nil)), (990, .sat (gP nb (some r))), (4, .val (.bool false)), (6, .sat (nP nb (some r) ((Tm.elemsOf p0 l0).2.1) ((Tm.elemsOf p0 l0).2.2))), (5, .sat (nR nb (some r) ((Tm.elemsOf p0 l0).1)))] w0 a w)
    (hQ : ∀ a' w', Hold 32 [(1, .sat (nP 0 (some r) p0 l0)), (2, .sat (nR 0 (some r) .nil)), (3, .sat (rC nb r zp .nil)), (990, .sat (gP nb (some r))), (4, .val (.bool false)), (6, .sat (nP nb (some r) ((Tm.elemsOf p0 l0).2.1) ((Tm.elemsOf p0 l0).2.2))), (5, .sat (nR nb (some r) ((Tm.elemsOf p0 l0).1))), (18, .val (.bool false))] w0 a' w' → Q .normal a' w') : (Code.region 4 rList64Ops false).wp Try.prog Q a w := by
  refine region_seq (w0 := w) 3 (by kernel_rfl) ?_
  rw [show List.range 3 = [0, 1, 2] from rfl]
  refine env_one (i := 0) (d := 16) (k := .ptrI ((Tm.elemsOf p0 l0).2.1.1)) (step_field0 (by kernel_rfl) (Opd.ofP (Opd.of_base 6 rfl)) rfl) (by kernel_rfl) (by decide) h ?_
  clear h
  intro a w h
  refine env_one (i := 1) (d := 17) (k := .val (.int .i64 ((Tm.elemsOf p0 l0).2.1.1))) (step_load_int3 (by kernel_rfl) (Opd.of_base 16 rfl) rfl) (by kernel_rfl) (by decide) h ?_
  clear h
  intro a w h
  refine env_one (i := 2) (d := 18) (k := .val (.bool false)) (step_eqb_int (m := ((Tm.elemsOf p0 l0).2.1.1)) (n := 0) (by kernel_rfl) (Opd.of_base 17 rfl) (Opd.const _) (by simpa using h1) rfl) (by kernel_rfl) (by decide) h ?_
  clear h
  intro a w h
  exact hQ a w (h.keep [1, 2, 3, 990, 4, 6, 5, 18])
theorem rList66a_region {Q : Exit → Act → World → Prop} (p0 : Pay) (l0 : Fo) (nb r : Nat) (h2 : ¬ (Tm.elemsOf p0 l0).2.1.1 = 2) {w0 : World} {a : Act} {w : World} (hr : w0.heap.size ≤ r) (h : Hold 32 [(1, .sat (nP 0 (some r) p0 l0)), (2, .sat (nR 0 (some r) .nil)), (3, .sat (rC nb r zp .nil)), (990, .sat (gP nb (some r))), (4, .val (.bool false)), (6, .sat (nP nb (some r) ((Tm.elemsOf p0 l0).2.1) ((Tm.elemsOf p0 l0).2.2))), (5, .sat (nR nb (some r) ((Tm.elemsOf p0 l0).1)))] w0 a w)
    (hQ : ∀ a' w', Hold 32 [(1, .sat (nP 0 (some r) p0 l0)), (2, .sat (nR 0 (some r) .nil)), (3, .sat (rC nb r zp .nil)), (990, .sat (gP nb (some r))), (4, .val (.bool false)), (5, .sat (nR nb (some r) ((Tm.elemsOf p0 l0).1))), (27, .val (.bool true))] w0 a' w' → Q .normal a' w') : (Code.region 6 rList66Ops false).wp Try.prog Q a w := by
  refine region_seq (w0 := w) 8 (by kernel_rfl) ?_
  rw [show List.range 8 = [0, 1, 2, 3, 4, 5, 6, 7] from rfl]
  refine env_one (i := 0) (d := 20) (k := .ptrI ((Tm.elemsOf p0 l0).2.1.1)) (step_field0 (by kernel_rfl) (Opd.ofP (Opd.of_base 6 rfl)) rfl) (by kernel_rfl) (by decide) h ?_
  clear h
  intro a w h
  refine env_one (i := 1) (d := 21) (k := .val (.int .i64 ((Tm.elemsOf p0 l0).2.1.1))) (step_load_int3 (by kernel_rfl) (Opd.of_base 20 rfl) rfl) (by kernel_rfl) (by decide) h ?_
  clear h
  intro a w h
  refine env_one (i := 2) (d := 22) (k := .val (.bool true)) (step_ne_int (m := ((Tm.elemsOf p0 l0).2.1.1)) (n := 2) (by kernel_rfl) (Opd.of_base 21 rfl) (Opd.const _) (by simpa using h2) rfl) (by kernel_rfl) (by decide) h ?_
  clear h
  intro a w h
  refine env_one (i := 3) (d := 23) (k := .val (.bool true)) (step_move (by kernel_rfl) (Opd.of_base 22 rfl) rfl) (by kernel_rfl) (by decide) h ?_
  clear h
  intro a w h
  refine env_skip (i := 4) (d := 24) (g := 3) (dg := 23) (b := false) (by kernel_rfl) (by decide) (by kernel_rfl) rfl rfl h ?_
  clear h
  intro a w h
  refine env_skip (i := 5) (d := 25) (g := 3) (dg := 23) (b := false) (by kernel_rfl) (by decide) (by kernel_rfl) rfl rfl h ?_
  clear h
  intro a w h
  refine env_skip (i := 6) (d := 26) (g := 3) (dg := 23) (b := false) (by kernel_rfl) (by decide) (by kernel_rfl) rfl rfl h ?_
  clear h
  intro a w h
  refine env_one (i := 7) (d := 27) (k := .val (.bool true)) (step_pick_yes (y := .tmp 26) (by kernel_rfl) (Opd.of_base 23 rfl) (Opd.const _) rfl) (by kernel_rfl) (by decide) h ?_
  clear h
  intro a w h
  exact hQ a w (h.keep [1, 2, 3, 990, 4, 5, 27])
theorem rList67a_region {Q : Exit → Act → World → Prop} (p0 : Pay) (l0 : Fo) (nb r : Nat)  {w0 : World} {a : Act} {w : World} (hr : w0.heap.size ≤ r) (h : Hold 32 [(1, .sat (nP 0 (some r) p0 l0)), (2, .sat (nR 0 (some r) .nil)), (3, .sat (rC nb r zp .nil)), (990, .sat (gP nb (some r))), (4, .val (.bool false)), (5, .sat (nR nb (some r) ((Tm.elemsOf p0 l0).1)))] w0 a w)
    (hQ : ∀ a' w', Hold 32 [(2, .sat (nR nb (some r) .nil)), (990, .sat (gP nb (some r))), (4, .val (.bool false)), (5, .sat (nR nb (some r) ((Tm.elemsOf p0 l0).1))), (3, .sat (rC nb r ((Bl.ty (⟨#[108, 105, 115, 116]⟩) p0 l0).1) ((Bl.ty (⟨#[108, 105, 115, 116]⟩) p0 l0).2)))] w0 a' w' → Q .normal a' w') : (Code.region 7 rList67Ops false).wp Try.prog Q a w := by
  refine region_seq (w0 := w) 5 (by kernel_rfl) ?_
  rw [show List.range 5 = [0, 1, 2, 3, 4] from rfl]
  refine env_one (i := 0) (d := 28) (k := .sat (nT 0 (some r) p0 l0)) (step_nload (by kernel_rfl) (Opd.of_base 1 rfl) rfl) (by kernel_rfl) (by decide) h ?_
  clear h
  intro a w h
  refine env_one (i := 1) (d := 29) (k := .sat (nT nb (some r) ((Bl.ty (⟨#[108, 105, 115, 116]⟩) p0 l0).1) ((Bl.ty (⟨#[108, 105, 115, 116]⟩) p0 l0).2))) (step_rTy (g := 990) (by kernel_rfl) (Opd.const _) (Opd.ofT (Opd.of_base 28 rfl)) (Opd.of_base 990 rfl) rfl) (by kernel_rfl) (by decide) h ?_
  clear h
  intro a w h
  refine env_one (i := 2) (d := 2) (k := .sat (nR nb (some r) .nil)) (step_assign (by kernel_rfl) (Opd.ofK (Opd.nilK (n := nb) (G := (some r)) (Opd.const _))) rfl) (by kernel_rfl) (by decide) h ?_
  clear h
  intro a w h
  refine env_store (i := 3) (x := 3) (y := 29) (r := r) [(1, .sat (nP 0 (some r) p0 l0)), (2, .sat (nR nb (some r) .nil)), (990, .sat (gP nb (some r))), (4, .val (.bool false)), (5, .sat (nR nb (some r) ((Tm.elemsOf p0 l0).1))), (28, .sat (nT 0 (some r) p0 l0)), (29, .sat (nT nb (some r) ((Bl.ty (⟨#[108, 105, 115, 116]⟩) p0 l0).1) ((Bl.ty (⟨#[108, 105, 115, 116]⟩) p0 l0).2)))] (by kernel_rfl) rfl rfl hr (stays_cons 1 rfl (away_nP _ _ _ _) (stays_cons 2 rfl (away_nR _ _ _) (stays_cons 990 rfl (away_gP _ _ _) (stays_cons 4 rfl (away_val _ _) (stays_cons 5 rfl (away_nR _ _ _) (stays_cons 28 rfl (away_nT _ _ _ _) (stays_cons 29 rfl (away_nT _ _ _ _) (stays_nil _ _)))))))) h ?_
  clear h
  intro a w h
  refine env_one (i := 4) (d := 4) (k := .val (.bool false)) (step_assign (by kernel_rfl) (Opd.const _) rfl) (by kernel_rfl) (by decide) h ?_
  clear h
  intro a w h
  exact hQ a w (h.keep [2, 990, 4, 5, 3])
theorem rList66b_region {Q : Exit → Act → World → Prop} (p0 : Pay) (l0 : Fo) (nb r : Nat) (h2 : (Tm.elemsOf p0 l0).2.1.1 = 2) (h3 : ¬ (Tm.elemsOf p0 l0).2.1.2.2 = (⟨#[91, 93]⟩ : ByteArray)) {w0 : World} {a : Act} {w : World} (hr : w0.heap.size ≤ r) (h : Hold 32 [(1, .sat (nP 0 (some r) p0 l0)), (2, .sat (nR 0 (some r) .nil)), (3, .sat (rC nb r zp .nil)), (990, .sat (gP nb (some r))), (4, .val (.bool false)), (6, .sat (nP nb (some r) ((Tm.elemsOf p0 l0).2.1) ((Tm.elemsOf p0 l0).2.2))), (5, .sat (nR nb (some r) ((Tm.elemsOf p0 l0).1)))] w0 a w)
    (hQ : ∀ a' w', Hold 32 [(1, .sat (nP 0 (some r) p0 l0)), (2, .sat (nR 0 (some r) .nil)), (3, .sat (rC nb r zp .nil)), (990, .sat (gP nb (some r))), (4, .val (.bool false)), (5, .sat (nR nb (some r) ((Tm.elemsOf p0 l0).1))), (27, .val (.bool true))] w0 a' w' → Q .normal a' w') : (Code.region 6 rList66Ops false).wp Try.prog Q a w := by
  refine region_seq (w0 := w) 8 (by kernel_rfl) ?_
  rw [show List.range 8 = [0, 1, 2, 3, 4, 5, 6, 7] from rfl]
  refine env_one (i := 0) (d := 20) (k := .ptrI ((Tm.elemsOf p0 l0).2.1.1)) (step_field0 (by kernel_rfl) (Opd.ofP (Opd.of_base 6 rfl)) rfl) (by kernel_rfl) (by decide) h ?_
  clear h
  intro a w h
  refine env_one (i := 1) (d := 21) (k := .val (.int .i64 ((Tm.elemsOf p0 l0).2.1.1))) (step_load_int3 (by kernel_rfl) (Opd.of_base 20 rfl) rfl) (by kernel_rfl) (by decide) h ?_
  clear h
  intro a w h
  refine env_one (i := 2) (d := 22) (k := .val (.bool false)) (step_ne_int (m := ((Tm.elemsOf p0 l0).2.1.1)) (n := 2) (by kernel_rfl) (Opd.of_base 21 rfl) (Opd.const _) (by rw [h2]; rfl) rfl) (by kernel_rfl) (by decide) h ?_
  clear h
  intro a w h
  refine env_one (i := 3) (d := 23) (k := .val (.bool false)) (step_move (by kernel_rfl) (Opd.of_base 22 rfl) rfl) (by kernel_rfl) (by decide) h ?_
  clear h
  intro a w h
  refine env_guard (i := 4) (d := 24) (g := 3) (dg := 23) (b := false) (k := .ptrS ((Tm.elemsOf p0 l0).2.1.2.2)) (step_field2 (by kernel_rfl) (Opd.ofP (Opd.of_base 6 rfl)) rfl) (by kernel_rfl) (by decide) (by kernel_rfl) (by decide) rfl h ?_
  clear h
  intro a w h
  refine env_guard (i := 5) (d := 25) (g := 3) (dg := 23) (b := false) (k := .val (.string ((Tm.elemsOf p0 l0).2.1.2.2))) (step_load_string (by kernel_rfl) (Opd.of_base 24 rfl) rfl) (by kernel_rfl) (by decide) (by kernel_rfl) (by decide) rfl h ?_
  clear h
  intro a w h
  refine env_guard (i := 6) (d := 26) (g := 3) (dg := 23) (b := false) (k := .val (.bool true)) (step_ne_str (s := ((Tm.elemsOf p0 l0).2.1.2.2)) (t := ⟨#[91, 93]⟩) (by kernel_rfl) (Opd.of_base 25 rfl) (Opd.const _) (by rw [decide_eq_false h3]; rfl) rfl) (by kernel_rfl) (by decide) (by kernel_rfl) (by decide) rfl h ?_
  clear h
  intro a w h
  refine env_one (i := 7) (d := 27) (k := .val (.bool true)) (step_pick_no (x := .const (.bool true)) (by kernel_rfl) (Opd.of_base 23 rfl) (Opd.of_base 26 rfl) rfl) (by kernel_rfl) (by decide) h ?_
  clear h
  intro a w h
  exact hQ a w (h.keep [1, 2, 3, 990, 4, 5, 27])
theorem rList66c_region {Q : Exit → Act → World → Prop} (p0 : Pay) (l0 : Fo) (nb r : Nat) (h2 : (Tm.elemsOf p0 l0).2.1.1 = 2) (h3 : (Tm.elemsOf p0 l0).2.1.2.2 = (⟨#[91, 93]⟩ : ByteArray)) {w0 : World} {a : Act} {w : World} (hr : w0.heap.size ≤ r) (h : Hold 32 [(1, .sat (nP 0 (some r) p0 l0)), (2, .sat (nR 0 (some r) .nil)), (3, .sat (rC nb r zp .nil)), (990, .sat (gP nb (some r))), (4, .val (.bool false)), (6, .sat (nP nb (some r) ((Tm.elemsOf p0 l0).2.1) ((Tm.elemsOf p0 l0).2.2))), (5, .sat (nR nb (some r) ((Tm.elemsOf p0 l0).1)))] w0 a w)
    (hQ : ∀ a' w', Hold 32 [(1, .sat (nP 0 (some r) p0 l0)), (2, .sat (nR 0 (some r) .nil)), (3, .sat (rC nb r zp .nil)), (990, .sat (gP nb (some r))), (4, .val (.bool false)), (5, .sat (nR nb (some r) ((Tm.elemsOf p0 l0).1))), (27, .val (.bool false))] w0 a' w' → Q .normal a' w') : (Code.region 6 rList66Ops false).wp Try.prog Q a w := by
  refine region_seq (w0 := w) 8 (by kernel_rfl) ?_
  rw [show List.range 8 = [0, 1, 2, 3, 4, 5, 6, 7] from rfl]
  refine env_one (i := 0) (d := 20) (k := .ptrI ((Tm.elemsOf p0 l0).2.1.1)) (step_field0 (by kernel_rfl) (Opd.ofP (Opd.of_base 6 rfl)) rfl) (by kernel_rfl) (by decide) h ?_
  clear h
  intro a w h
  refine env_one (i := 1) (d := 21) (k := .val (.int .i64 ((Tm.elemsOf p0 l0).2.1.1))) (step_load_int3 (by kernel_rfl) (Opd.of_base 20 rfl) rfl) (by kernel_rfl) (by decide) h ?_
  clear h
  intro a w h
  refine env_one (i := 2) (d := 22) (k := .val (.bool false)) (step_ne_int (m := ((Tm.elemsOf p0 l0).2.1.1)) (n := 2) (by kernel_rfl) (Opd.of_base 21 rfl) (Opd.const _) (by rw [h2]; rfl) rfl) (by kernel_rfl) (by decide) h ?_
  clear h
  intro a w h
  refine env_one (i := 3) (d := 23) (k := .val (.bool false)) (step_move (by kernel_rfl) (Opd.of_base 22 rfl) rfl) (by kernel_rfl) (by decide) h ?_
  clear h
  intro a w h
  refine env_guard (i := 4) (d := 24) (g := 3) (dg := 23) (b := false) (k := .ptrS ((Tm.elemsOf p0 l0).2.1.2.2)) (step_field2 (by kernel_rfl) (Opd.ofP (Opd.of_base 6 rfl)) rfl) (by kernel_rfl) (by decide) (by kernel_rfl) (by decide) rfl h ?_
  clear h
  intro a w h
  refine env_guard (i := 5) (d := 25) (g := 3) (dg := 23) (b := false) (k := .val (.string ((Tm.elemsOf p0 l0).2.1.2.2))) (step_load_string (by kernel_rfl) (Opd.of_base 24 rfl) rfl) (by kernel_rfl) (by decide) (by kernel_rfl) (by decide) rfl h ?_
  clear h
  intro a w h
  refine env_guard (i := 6) (d := 26) (g := 3) (dg := 23) (b := false) (k := .val (.bool false)) (step_ne_str (s := ((Tm.elemsOf p0 l0).2.1.2.2)) (t := ⟨#[91, 93]⟩) (by kernel_rfl) (Opd.of_base 25 rfl) (Opd.const _) (by rw [decide_eq_true h3]; rfl) rfl) (by kernel_rfl) (by decide) (by kernel_rfl) (by decide) rfl h ?_
  clear h
  intro a w h
  refine env_one (i := 7) (d := 27) (k := .val (.bool false)) (step_pick_no (x := .const (.bool true)) (by kernel_rfl) (Opd.of_base 23 rfl) (Opd.of_base 26 rfl) rfl) (by kernel_rfl) (by decide) h ?_
  clear h
  intro a w h
  exact hQ a w (h.keep [1, 2, 3, 990, 4, 5, 27])
theorem rList68a_region {Q : Exit → Act → World → Prop} (p0 : Pay) (l0 : Fo) (nb r : Nat)  {w0 : World} {a : Act} {w : World} (hr : w0.heap.size ≤ r) (h : Hold 32 [(2, .sat (nR 0 (some r) .nil)), (3, .sat (rC nb r zp .nil)), (990, .sat (gP nb (some r))), (4, .val (.bool false)), (5, .sat (nR nb (some r) ((Tm.elemsOf p0 l0).1)))] w0 a w)
    (hQ : ∀ a' w', Hold 32 [(2, .sat (nR nb (some r) ((Tm.elemsOf p0 l0).1))), (990, .sat (gP nb (some r))), (4, .val (.bool true)), (3, .sat (rC nb r zp .nil))] w0 a' w' → Q .normal a' w') : (Code.region 8 rList68Ops false).wp Try.prog Q a w := by
  refine region_seq (w0 := w) 5 (by kernel_rfl) ?_
  rw [show List.range 5 = [0, 1, 2, 3, 4] from rfl]
  refine env_one (i := 0) (d := 30) (k := .sat (nR nb (some r) ((Tm.elemsOf p0 l0).1))) (step_move (by kernel_rfl) (Opd.of_base 5 rfl) rfl) (by kernel_rfl) (by decide) h ?_
  clear h
  intro a w h
  refine env_one (i := 1) (d := 31) (k := .sat (nT nb (some r) zp .nil)) (step_nzero (by kernel_rfl) rfl) (by kernel_rfl) (by decide) h ?_
  clear h
  intro a w h
  refine env_one (i := 2) (d := 2) (k := .sat (nR nb (some r) ((Tm.elemsOf p0 l0).1))) (step_assign (by kernel_rfl) (Opd.of_base 30 rfl) rfl) (by kernel_rfl) (by decide) h ?_
  clear h
  intro a w h
  refine env_store (i := 3) (x := 3) (y := 31) (r := r) [(2, .sat (nR nb (some r) ((Tm.elemsOf p0 l0).1))), (990, .sat (gP nb (some r))), (4, .val (.bool false)), (5, .sat (nR nb (some r) ((Tm.elemsOf p0 l0).1))), (30, .sat (nR nb (some r) ((Tm.elemsOf p0 l0).1))), (31, .sat (nT nb (some r) zp .nil))] (by kernel_rfl) rfl rfl hr (stays_cons 2 rfl (away_nR _ _ _) (stays_cons 990 rfl (away_gP _ _ _) (stays_cons 4 rfl (away_val _ _) (stays_cons 5 rfl (away_nR _ _ _) (stays_cons 30 rfl (away_nR _ _ _) (stays_cons 31 rfl (away_nT _ _ _ _) (stays_nil _ _))))))) h ?_
  clear h
  intro a w h
  refine env_one (i := 4) (d := 4) (k := .val (.bool true)) (step_assign (by kernel_rfl) (Opd.const _) rfl) (by kernel_rfl) (by decide) h ?_
  clear h
  intro a w h
  exact hQ a w (h.keep [2, 990, 4, 3])
theorem rList62a_region {Q : Exit → Act → World → Prop} (p0 : Pay) (l0 : Fo) (nb r : Nat)  {w0 : World} {a : Act} {w : World} (hr : w0.heap.size ≤ r) (h : Hold 32 [(1, .sat (nP 0 (some r) p0 l0)), (2, .sat (nR 0 (some r) .nil)), (3, .sat (rC nb r zp .nil)), (990, .sat (gP nb (some r))), (4, .val (.bool false))] w0 a w)
    (hQ : ∀ a' w', Hold 32 [(1, .sat (nP 0 (some r) p0 l0)), (2, .sat (nR nb (some r) .nil)), (990, .sat (gP nb (some r))), (4, .val (.bool false)), (3, .sat (rC nb r zp .nil))] w0 a' w' → Q .normal a' w') : (Code.region 2 rList62Ops false).wp Try.prog Q a w := by
  refine region_seq (w0 := w) 4 (by kernel_rfl) ?_
  rw [show List.range 4 = [0, 1, 2, 3] from rfl]
  refine env_one (i := 0) (d := 10) (k := .sat (nT nb (some r) zp .nil)) (step_nzero (by kernel_rfl) rfl) (by kernel_rfl) (by decide) h ?_
  clear h
  intro a w h
  refine env_one (i := 1) (d := 2) (k := .sat (nR nb (some r) .nil)) (step_assign (by kernel_rfl) (Opd.ofK (Opd.nilK (n := nb) (G := (some r)) (Opd.const _))) rfl) (by kernel_rfl) (by decide) h ?_
  clear h
  intro a w h
  refine env_store (i := 2) (x := 3) (y := 10) (r := r) [(1, .sat (nP 0 (some r) p0 l0)), (2, .sat (nR nb (some r) .nil)), (990, .sat (gP nb (some r))), (4, .val (.bool false)), (10, .sat (nT nb (some r) zp .nil))] (by kernel_rfl) rfl rfl hr (stays_cons 1 rfl (away_nP _ _ _ _) (stays_cons 2 rfl (away_nR _ _ _) (stays_cons 990 rfl (away_gP _ _ _) (stays_cons 4 rfl (away_val _ _) (stays_cons 10 rfl (away_nT _ _ _ _) (stays_nil _ _)))))) h ?_
  clear h
  intro a w h
  refine env_one (i := 3) (d := 4) (k := .val (.bool false)) (step_assign (by kernel_rfl) (Opd.const _) rfl) (by kernel_rfl) (by decide) h ?_
  clear h
  intro a w h
  exact hQ a w (h.keep [1, 2, 990, 4, 3])
set_option maxHeartbeats 1000000 in
theorem rList6_any (p0 : Pay) (l0 : Fo) (A0 : Option Addr) (c0 : Nat) (B : Nat) (w : World) (hA0 : ArgsB w B A0 (Tm.len l0) l0) (hB : B ≤ w.heap.size)  : Calls Try.prog 44 #[tv p0 A0 (Tm.len l0) c0] w (MkLB w.heap.size ((Bl.list p0 l0).1) ((Bl.list p0 l0).2.1).1 ((Bl.list p0 l0).2.1).2 ((Bl.list p0 l0).2.2) w) := by
  refine calls_of_wp Try.func44 rList6_body ?_
  obtain ⟨v0, hv0⟩ : ∃ v : Value, v = tv p0 A0 (Tm.len l0) c0 := ⟨_, rfl⟩
  rw [← hv0]
  have hk0 : (Kd.term p0 l0).R v0 w := by rw [hv0]; exact ⟨A0, c0, rfl, hA0.up hB⟩
  have hsN : (#[v0] ++ Array.replicate (Try.f44.ntmps - #[v0].size) undef : Array Value).size = 32 := by kernel_rfl
  have gs0 : (#[v0] ++ Array.replicate (Try.f44.ntmps - #[v0].size) undef : Array Value).getD 0 undef = v0 := by kernel_rfl
  generalize (#[v0] ++ Array.replicate (Try.f44.ntmps - #[v0].size) undef : Array Value) = tm at hsN gs0 ⊢
  obtain ⟨a, ha0⟩ : ∃ a : Act, a = ⟨tm, []⟩ := ⟨_, rfl⟩
  have h : Hold 32 [(0, .term p0 l0)] w ⟨tm, []⟩ w := ⟨hsN, rfl, Below.refl _ _, (slots_cons 0 (by rw [gs0]; exact hk0) slots_nil)⟩
  obtain ⟨nb, hnb⟩ : ∃ nb, nb = w.heap.size := ⟨_, rfl⟩
  have hn : nb ≤ w.heap.size := by omega
  refine wp_seq ?_
  refine rList60a_region p0 l0 nb  hn h ?_
  intro r a w1 hr h
  show Code.wp _ _ _ a w1
  refine wp_seq ?_
  refine wp_seq ?_
  refine rList61a_region p0 l0 nb r  hr h ?_
  intro a w1 h
  rcases Bool.eq_false_or_eq_true (Tm.validB p0 l0) with hv | hv
  · rw [hv] at h
    (try simp only [Bool.not_true, Bool.not_false] at h)
    show Code.wp _ _ _ a w1
    refine env_cond (b := false) rfl h ?_
    refine wp_skip ?_
    have h := h.keep [1, 2, 3, 990, 4]
    show Code.wp _ _ _ a w1
    refine wp_seq ?_
    refine rList63a_region p0 l0 nb r hv hr h ?_
    intro a w1 h
    show Code.wp _ _ _ a w1
    refine wp_seq ?_
    refine wp_seq ?_
    by_cases h1 : (Tm.elemsOf p0 l0).2.1.1 = 0
    · refine rList64a_region p0 l0 nb r h1 hr h ?_
      intro a w1 h
      show Code.wp _ _ _ a w1
      refine env_cond (b := true) rfl h ?_
      have h := h.keep [1, 2, 3, 990, 4, 6, 5]
      show Code.wp _ _ _ a w1
      refine wp_seq ?_
      refine rList65a_region p0 l0 nb r  hr h ?_
      intro a w1 h
      show Code.wp _ _ _ a w1
      have ev : Bl.list p0 l0 = (.nil, ((Bl.inst.1, Bl.inst.2), false)) := by simp [Bl.list, Bl.listOf, hv, h1]
      rw [ev]
      refine wp_ret ?_
      (try simp only [then_ret, block_ret])
      exact law_lcb rfl (h.get 2 rfl) (h.get 3 rfl) (h.get 4 rfl) h.defers fun A c A' c' ha ha' => ⟨A, c, A', c', rfl, ha.mono fun b hb => ⟨by have := hb.1; omega, hb.2.1⟩, ha'.mono fun b hb => ⟨by have := hb.1; omega, hb.2.1⟩, h.world⟩
    · refine rList64b_region p0 l0 nb r h1 hr h ?_
      intro a w1 h
      show Code.wp _ _ _ a w1
      refine env_cond (b := false) rfl h ?_
      refine wp_skip ?_
      have h := h.keep [1, 2, 3, 990, 4, 6, 5]
      show Code.wp _ _ _ a w1
      refine wp_seq ?_
      refine wp_seq ?_
      by_cases h2 : (Tm.elemsOf p0 l0).2.1.1 = 2
      rotate_left
      · refine rList66a_region p0 l0 nb r h2 hr h ?_
        intro a w1 h
        show Code.wp _ _ _ a w1
        refine env_cond (b := true) rfl h ?_
        have h := h.keep [1, 2, 3, 990, 4, 5]
        show Code.wp _ _ _ a w1
        refine wp_seq ?_
        refine rList67a_region p0 l0 nb r  hr h ?_
        intro a w1 h
        show Code.wp _ _ _ a w1
        have ev : Bl.list p0 l0 = (.nil, (((Bl.ty (⟨#[108, 105, 115, 116]⟩) p0 l0).1, (Bl.ty (⟨#[108, 105, 115, 116]⟩) p0 l0).2), false)) := by simp [Bl.list, Bl.listOf, hv, h1, h2]
        rw [ev]
        refine wp_ret ?_
        (try simp only [then_ret, block_ret])
        exact law_lcb rfl (h.get 2 rfl) (h.get 3 rfl) (h.get 4 rfl) h.defers fun A c A' c' ha ha' => ⟨A, c, A', c', rfl, ha.mono fun b hb => ⟨by have := hb.1; omega, hb.2.1⟩, ha'.mono fun b hb => ⟨by have := hb.1; omega, hb.2.1⟩, h.world⟩
      by_cases h3 : (Tm.elemsOf p0 l0).2.1.2.2 = (⟨#[91, 93]⟩ : ByteArray)
      rotate_left
      · refine rList66b_region p0 l0 nb r h2 h3 hr h ?_
        intro a w1 h
        show Code.wp _ _ _ a w1
        refine env_cond (b := true) rfl h ?_
        have h := h.keep [1, 2, 3, 990, 4, 5]
        show Code.wp _ _ _ a w1
        refine wp_seq ?_
        refine rList67a_region p0 l0 nb r  hr h ?_
        intro a w1 h
        show Code.wp _ _ _ a w1
        have ev : Bl.list p0 l0 = (.nil, (((Bl.ty (⟨#[108, 105, 115, 116]⟩) p0 l0).1, (Bl.ty (⟨#[108, 105, 115, 116]⟩) p0 l0).2), false)) := by simp [Bl.list, Bl.listOf, hv, h1, h2, h3]
        rw [ev]
        refine wp_ret ?_
        (try simp only [then_ret, block_ret])
        exact law_lcb rfl (h.get 2 rfl) (h.get 3 rfl) (h.get 4 rfl) h.defers fun A c A' c' ha ha' => ⟨A, c, A', c', rfl, ha.mono fun b hb => ⟨by have := hb.1; omega, hb.2.1⟩, ha'.mono fun b hb => ⟨by have := hb.1; omega, hb.2.1⟩, h.world⟩
      · refine rList66c_region p0 l0 nb r h2 h3 hr h ?_
        intro a w1 h
        show Code.wp _ _ _ a w1
        refine env_cond (b := false) rfl h ?_
        refine wp_skip ?_
        have h := h.keep [2, 3, 990, 4, 5]
        show Code.wp _ _ _ a w1
        refine wp_seq ?_
        refine rList68a_region p0 l0 nb r  hr h ?_
        intro a w1 h
        show Code.wp _ _ _ a w1
        have ev : Bl.list p0 l0 = ((Tm.elemsOf p0 l0).1, ((zp, .nil), true)) := by simp [Bl.list, Bl.listOf, hv, h1, h2, h3]
        rw [ev]
        refine wp_ret ?_
        (try simp only [then_ret, block_ret])
        exact law_lcb rfl (h.get 2 rfl) (h.get 3 rfl) (h.get 4 rfl) h.defers fun A c A' c' ha ha' => ⟨A, c, A', c', rfl, ha.mono fun b hb => ⟨by have := hb.1; omega, hb.2.1⟩, ha'.mono fun b hb => ⟨by have := hb.1; omega, hb.2.1⟩, h.world⟩
  · rw [hv] at h
    (try simp only [Bool.not_true, Bool.not_false] at h)
    show Code.wp _ _ _ a w1
    refine env_cond (b := true) rfl h ?_
    have h := h.keep [1, 2, 3, 990, 4]
    show Code.wp _ _ _ a w1
    refine wp_seq ?_
    refine rList62a_region p0 l0 nb r  hr h ?_
    intro a w1 h
    show Code.wp _ _ _ a w1
    have ev : Bl.list p0 l0 = (.nil, ((zp, .nil), false)) := by simp [Bl.list, Bl.listOf, hv]
    rw [ev]
    refine wp_ret ?_
    (try simp only [then_ret, block_ret])
    exact law_lcb rfl (h.get 2 rfl) (h.get 3 rfl) (h.get 4 rfl) h.defers fun A c A' c' ha ha' => ⟨A, c, A', c', rfl, ha.mono fun b hb => ⟨by have := hb.1; omega, hb.2.1⟩, ha'.mono fun b hb => ⟨by have := hb.1; omega, hb.2.1⟩, h.world⟩
section
variable {ops : Array Oper} {Q : Exit → Act → World → Prop} {E : Nat → Kd} {D : Nat → Nat} {base : Nat → Option Kd} {N : Nat}
theorem step_rList6 {i : Nat} {n g : Nat} {G : Option Nat} {x0 : Operand} {p0 : Pay} {l0 : Fo} (hop : (ops[i]?).map (·.op) = some (.call { callee := .value (.func 44), args := #[x0], argTypes := #[24] })) (h0 : Opd ops E D base N i x0 (.term p0 l0)) (hg : Opd ops E D base N i (.tmp g) (.sat (gP n G))) (hE : E i = .sat (nL3 n G ((Bl.list p0 l0).1) ((Bl.list p0 l0).2.1).1 ((Bl.list p0 l0).2.1).2 ((Bl.list p0 l0).2.2))) : Step Try.prog ops Q E D base N i :=
  step_mkLB hop (fun _ _ => by kernel_rfl) hg (fun a w h => by
    obtain ⟨A0, c0, e0, ha0⟩ := h0 a w h
    rw [show (#[x0] : Array Operand).map a.eval = #[tv p0 A0 (Tm.len l0) c0] by rw [← e0]; simp]
    exact rList6_any p0 l0 A0 c0 w.heap.size w ha0 (Nat.le_refl _)) hE
end
noncomputable def rChar0Ops : Array Oper := ((Try.f46.body).bind (findReg 0)).getD #[]
noncomputable def rChar1Ops : Array Oper := ((Try.f46.body).bind (findReg 1)).getD #[]
noncomputable def rChar2Ops : Array Oper := ((Try.f46.body).bind (findReg 2)).getD #[]
noncomputable def rChar3Ops : Array Oper := ((Try.f46.body).bind (findReg 3)).getD #[]
noncomputable def rChar4Ops : Array Oper := ((Try.f46.body).bind (findReg 4)).getD #[]
noncomputable def rChar5Ops : Array Oper := ((Try.f46.body).bind (findReg 5)).getD #[]
noncomputable def rChar6Ops : Array Oper := ((Try.f46.body).bind (findReg 6)).getD #[]
noncomputable def rChar7Ops : Array Oper := ((Try.f46.body).bind (findReg 7)).getD #[]
theorem rChar_body : Try.f46.body = some (.seq (.region 0 rChar0Ops false) (.seq (.seq (.region 1 rChar1Ops false) (.cond (.tmp 7) (.seq (.region 2 rChar2Ops false) .ret) .skip)) (.seq (.seq (.region 3 rChar3Ops false) (.cond (.tmp 11) (.seq (.region 4 rChar4Ops false) .ret) .skip)) (.seq (.seq (.region 5 rChar5Ops false) (.cond (.tmp 21) (.seq (.region 6 rChar6Ops false) .ret) .skip)) (.seq (.region 7 rChar7Ops false) .ret))))) := by kernel_rfl
theorem rChar0a_region {Q : Exit → Act → World → Prop} (p0 : Pay) (l0 : Fo) (nb : Nat)  {w0 : World} {a : Act} {w : World} (hn : nb ≤ w0.heap.size) (h : Hold 29 [(0, .term p0 l0)] w0 a w)
    (hQ : ∀ r a' w', w0.heap.size ≤ r → Hold 29 [(1, .sat (nP 0 (some r) p0 l0)), (2, .val (.int .i64 0)), (3, .sat (rC nb r zp .nil)), (990, .sat (gP nb (some r))), (4, .val (.bool false))] w0 a' w' → Q .normal a' w') : (Code.region 0 rChar0Ops false).wp Try.prog Q a w := by
  refine region_seq (w0 := w) 4 (by kernel_rfl) ?_
  rw [show List.range 4 = [0, 1, 2, 3] from rfl]
  refine env_one (i := 0) (d := 1) (k := .ptrT p0 l0) (step_box (by kernel_rfl) (Opd.of_base 0 rfl) rfl) (by kernel_rfl) (by decide) h ?_
  clear h
  intro a w h
  refine env_one (i := 1) (d := 2) (k := .val (.int .i64 0)) (step_assign (by kernel_rfl) (Opd.const _) rfl) (by kernel_rfl) (by decide) h ?_
  clear h
  intro a w h
  refine env_res (i := 2) (d := 3) (n := nb) (fun r => [(0, .sat (nT 0 (some r) p0 l0)), (1, .sat (nP 0 (some r) p0 l0)), (2, .val (.int .i64 0))]) (by kernel_rfl) (by decide) (by decide) hn (fun r => (goes_cons 0 rfl (turns_term _ _ _) (goes_cons 1 rfl (turns_ptr _ _ _) (goes_cons 2 rfl (turns_val _ _) (goes_nil _ _))))) h ?_
  clear h
  intro r a w hr h
  refine env_one (i := 3) (d := 4) (k := .val (.bool false)) (step_assign (by kernel_rfl) (Opd.const _) rfl) (by kernel_rfl) (by decide) h ?_
  clear h
  intro a w h
  exact hQ r a w hr (h.keep [1, 2, 3, 990, 4])
theorem rChar1a_region {Q : Exit → Act → World → Prop} (p0 : Pay) (l0 : Fo) (nb r : Nat)  {w0 : World} {a : Act} {w : World} (hr : w0.heap.size ≤ r) (h : Hold 29 [(1, .sat (nP 0 (some r) p0 l0)), (2, .val (.int .i64 0)), (3, .sat (rC nb r zp .nil)), (990, .sat (gP nb (some r))), (4, .val (.bool false))] w0 a w)
    (hQ : ∀ a' w', Hold 29 [(1, .sat (nP 0 (some r) p0 l0)), (2, .val (.int .i64 0)), (3, .sat (rC nb r zp .nil)), (990, .sat (gP nb (some r))), (4, .val (.bool false)), (7, .val (.bool (!(Tm.validB p0 l0))))] w0 a' w' → Q .normal a' w') : (Code.region 1 rChar1Ops false).wp Try.prog Q a w := by
  refine region_seq (w0 := w) 3 (by kernel_rfl) ?_
  rw [show List.range 3 = [0, 1, 2] from rfl]
  refine env_one (i := 0) (d := 5) (k := .sat (nT 0 (some r) p0 l0)) (step_nload (by kernel_rfl) (Opd.of_base 1 rfl) rfl) (by kernel_rfl) (by decide) h ?_
  clear h
  intro a w h
  refine env_one (i := 1) (d := 6) (k := .val (.bool (Tm.validB p0 l0))) (step_rvalid6 (by kernel_rfl) (Opd.ofT (Opd.of_base 5 rfl)) rfl) (by kernel_rfl) (by decide) h ?_
  clear h
  intro a w h
  refine env_one (i := 2) (d := 7) (k := .val (.bool (!(Tm.validB p0 l0)))) (step_not (by kernel_rfl) (Opd.of_base 6 rfl) rfl) (by kernel_rfl) (by decide) h ?_
  clear h
  intro a w h
  exact hQ a w (h.keep [1, 2, 3, 990, 4, 7])
theorem rChar3a_region {Q : Exit → Act → World → Prop} (p0 : Pay) (l0 : Fo) (nb r : Nat) (h1 : p0.1 = 0) {w0 : World} {a : Act} {w : World} (hr : w0.heap.size ≤ r) (h : Hold 29 [(1, .sat (nP 0 (some r) p0 l0)), (2, .val (.int .i64 0)), (3, .sat (rC nb r zp .nil)), (990, .sat (gP nb (some r))), (4, .val (.bool false))] w0 a w)
    (hQ : ∀ a' w', Hold 29 [(1, .sat (nP 0 (some r) p0 l0)), (2, .val (.int .i64 0)), (3, .sat (rC nb r zp .nil)), (990, .sat (gP nb (some r))), (4, .val (.bool false)), (11, .val (.bool true))] w0 a' w' → Q .normal a' w') : (Code.region 3 rChar3Ops false).wp Try.prog Q a w := by
  refine region_seq (w0 := w) 3 (by kernel_rfl) ?_
  rw [show List.range 3 = [0, 1, 2] from rfl]
  refine env_one (i := 0) (d := 9) (k := .ptrI (p0.1)) (step_field0 (by kernel_rfl) (Opd.ofP (Opd.of_base 1 rfl)) rfl) (by kernel_rfl) (by decide) h ?_
  clear h
  intro a w h
  refine env_one (i := 1) (d := 10) (k := .val (.int .i64 (p0.1))) (step_load_int3 (by kernel_rfl) (Opd.of_base 9 rfl) rfl) (by kernel_rfl) (by decide) h ?_
  clear h
  intro a w h
  refine env_one (i := 2) (d := 11) (k := .val (.bool true)) (step_eqb_int (m := (p0.1)) (n := 0) (by kernel_rfl) (Opd.of_base 10 rfl) (Opd.const _) (by rw [h1]; rfl) rfl) (by kernel_rfl) (by decide) h ?_
  clear h
  intro a w h
  exact hQ a w (h.keep [1, 2, 3, 990, 4, 11])
theorem rChar4a_region {Q : Exit → Act → World → Prop} (p0 : Pay) (l0 : Fo) (nb r : Nat)  {w0 : World} {a : Act} {w : World} (hr : w0.heap.size ≤ r) (h : Hold 29 [(1, .sat (nP 0 (some r) p0 l0)), (2, .val (.int .i64 0)), (3, .sat (rC nb r zp .nil)), (990, .sat (gP nb (some r))), (4, .val (.bool false))] w0 a w)
    (hQ : ∀ a' w', Hold 29 [(1, .sat (nP 0 (some r) p0 l0)), (2, .val (.int .i64 0)), (990, .sat (gP nb (some r))), (4, .val (.bool false)), (3, .sat (rC nb r Bl.inst.1 Bl.inst.2))] w0 a' w' → Q .normal a' w') : (Code.region 4 rChar4Ops false).wp Try.prog Q a w := by
  refine region_seq (w0 := w) 4 (by kernel_rfl) ?_
  rw [show List.range 4 = [0, 1, 2, 3] from rfl]
  refine env_one (i := 0) (d := 12) (k := .sat (nT nb (some r) Bl.inst.1 Bl.inst.2)) (step_rInst (g := 990) (by kernel_rfl)  (Opd.of_base 990 rfl) rfl) (by kernel_rfl) (by decide) h ?_
  clear h
  intro a w h
  refine env_one (i := 1) (d := 2) (k := .val (.int .i64 0)) (step_assign (by kernel_rfl) (Opd.const _) rfl) (by kernel_rfl) (by decide) h ?_
  clear h
  intro a w h
  refine env_store (i := 2) (x := 3) (y := 12) (r := r) [(1, .sat (nP 0 (some r) p0 l0)), (2, .val (.int .i64 0)), (990, .sat (gP nb (some r))), (4, .val (.bool false)), (12, .sat (nT nb (some r) Bl.inst.1 Bl.inst.2))] (by kernel_rfl) rfl rfl hr (stays_cons 1 rfl (away_nP _ _ _ _) (stays_cons 2 rfl (away_val _ _) (stays_cons 990 rfl (away_gP _ _ _) (stays_cons 4 rfl (away_val _ _) (stays_cons 12 rfl (away_nT _ _ _ _) (stays_nil _ _)))))) h ?_
  clear h
  intro a w h
  refine env_one (i := 3) (d := 4) (k := .val (.bool false)) (step_assign (by kernel_rfl) (Opd.const _) rfl) (by kernel_rfl) (by decide) h ?_
  clear h
  intro a w h
  exact hQ a w (h.keep [1, 2, 990, 4, 3])
theorem rChar3b_region {Q : Exit → Act → World → Prop} (p0 : Pay) (l0 : Fo) (nb r : Nat) (h1 : ¬ p0.1 = 0) {w0 : World} {a : Act} {w : World} (hr : w0.heap.size ≤ r) (h : Hold 29 [(1, .sat (nP 0 (some r) p0 l0)), (2, .val (.int .i64 0)), (3, .sat (rC nb r zp .nil)), (990, .sat (gP nb (some r))), (4, .val (.bool false))] w0 a w)
    (hQ : ∀ a' w', Hold 29 [(1, .sat (nP 0 (some r) p0 l0)), (2, .val (.int .i64 0)), (3, .sat (rC nb r zp .nil)), (990, .sat (gP nb (some r))), (4, .val (.bool false)), (11, .val (.bool false))] w0 a' w' → Q .normal a' w') : (Code.region 3 rChar3Ops false).wp Try.prog Q a w := by
  refine region_seq (w0 := w) 3 (by kernel_rfl) ?_
  rw [show List.range 3 = [0, 1, 2] from rfl]
  refine env_one (i := 0) (d := 9) (k := .ptrI (p0.1)) (step_field0 (by kernel_rfl) (Opd.ofP (Opd.of_base 1 rfl)) rfl) (by kernel_rfl) (by decide) h ?_
  clear h
  intro a w h
  refine env_one (i := 1) (d := 10) (k := .val (.int .i64 (p0.1))) (step_load_int3 (by kernel_rfl) (Opd.of_base 9 rfl) rfl) (by kernel_rfl) (by decide) h ?_
  clear h
  intro a w h
  refine env_one (i := 2) (d := 11) (k := .val (.bool false)) (step_eqb_int (m := (p0.1)) (n := 0) (by kernel_rfl) (Opd.of_base 10 rfl) (Opd.const _) (by simpa using h1) rfl) (by kernel_rfl) (by decide) h ?_
  clear h
  intro a w h
  exact hQ a w (h.keep [1, 2, 3, 990, 4, 11])
theorem rChar5a_region {Q : Exit → Act → World → Prop} (p0 : Pay) (l0 : Fo) (nb r : Nat) (h2 : ¬ p0.1 = 2) {w0 : World} {a : Act} {w : World} (hr : w0.heap.size ≤ r) (h : Hold 29 [(1, .sat (nP 0 (some r) p0 l0)), (2, .val (.int .i64 0)), (3, .sat (rC nb r zp .nil)), (990, .sat (gP nb (some r))), (4, .val (.bool false))] w0 a w)
    (hQ : ∀ a' w', Hold 29 [(1, .sat (nP 0 (some r) p0 l0)), (2, .val (.int .i64 0)), (3, .sat (rC nb r zp .nil)), (990, .sat (gP nb (some r))), (4, .val (.bool false)), (21, .val (.bool true))] w0 a' w' → Q .normal a' w') : (Code.region 5 rChar5Ops false).wp Try.prog Q a w := by
  refine region_seq (w0 := w) 9 (by kernel_rfl) ?_
  rw [show List.range 9 = [0, 1, 2, 3, 4, 5, 6, 7, 8] from rfl]
  refine env_one (i := 0) (d := 13) (k := .ptrI (p0.1)) (step_field0 (by kernel_rfl) (Opd.ofP (Opd.of_base 1 rfl)) rfl) (by kernel_rfl) (by decide) h ?_
  clear h
  intro a w h
  refine env_one (i := 1) (d := 14) (k := .val (.int .i64 (p0.1))) (step_load_int3 (by kernel_rfl) (Opd.of_base 13 rfl) rfl) (by kernel_rfl) (by decide) h ?_
  clear h
  intro a w h
  refine env_one (i := 2) (d := 15) (k := .val (.bool true)) (step_ne_int (m := (p0.1)) (n := 2) (by kernel_rfl) (Opd.of_base 14 rfl) (Opd.const _) (by simpa using h2) rfl) (by kernel_rfl) (by decide) h ?_
  clear h
  intro a w h
  refine env_one (i := 3) (d := 16) (k := .val (.bool true)) (step_move (by kernel_rfl) (Opd.of_base 15 rfl) rfl) (by kernel_rfl) (by decide) h ?_
  clear h
  intro a w h
  refine env_skip (i := 4) (d := 17) (g := 3) (dg := 16) (b := false) (by kernel_rfl) (by decide) (by kernel_rfl) rfl rfl h ?_
  clear h
  intro a w h
  refine env_skip (i := 5) (d := 18) (g := 3) (dg := 16) (b := false) (by kernel_rfl) (by decide) (by kernel_rfl) rfl rfl h ?_
  clear h
  intro a w h
  refine env_skip (i := 6) (d := 19) (g := 3) (dg := 16) (b := false) (by kernel_rfl) (by decide) (by kernel_rfl) rfl rfl h ?_
  clear h
  intro a w h
  refine env_skip (i := 7) (d := 20) (g := 3) (dg := 16) (b := false) (by kernel_rfl) (by decide) (by kernel_rfl) rfl rfl h ?_
  clear h
  intro a w h
  refine env_one (i := 8) (d := 21) (k := .val (.bool true)) (step_pick_yes (y := .tmp 20) (by kernel_rfl) (Opd.of_base 16 rfl) (Opd.const _) rfl) (by kernel_rfl) (by decide) h ?_
  clear h
  intro a w h
  exact hQ a w (h.keep [1, 2, 3, 990, 4, 21])
theorem rChar6a_region {Q : Exit → Act → World → Prop} (p0 : Pay) (l0 : Fo) (nb r : Nat)  {w0 : World} {a : Act} {w : World} (hr : w0.heap.size ≤ r) (h : Hold 29 [(1, .sat (nP 0 (some r) p0 l0)), (2, .val (.int .i64 0)), (3, .sat (rC nb r zp .nil)), (990, .sat (gP nb (some r))), (4, .val (.bool false))] w0 a w)
    (hQ : ∀ a' w', Hold 29 [(1, .sat (nP 0 (some r) p0 l0)), (2, .val (.int .i64 0)), (990, .sat (gP nb (some r))), (4, .val (.bool false)), (3, .sat (rC nb r ((Bl.ty (⟨#[99, 104, 97, 114, 97, 99, 116, 101, 114]⟩) p0 l0).1) ((Bl.ty (⟨#[99, 104, 97, 114, 97, 99, 116, 101, 114]⟩) p0 l0).2)))] w0 a' w' → Q .normal a' w') : (Code.region 6 rChar6Ops false).wp Try.prog Q a w := by
  refine region_seq (w0 := w) 5 (by kernel_rfl) ?_
  rw [show List.range 5 = [0, 1, 2, 3, 4] from rfl]
  refine env_one (i := 0) (d := 22) (k := .sat (nT 0 (some r) p0 l0)) (step_nload (by kernel_rfl) (Opd.of_base 1 rfl) rfl) (by kernel_rfl) (by decide) h ?_
  clear h
  intro a w h
  refine env_one (i := 1) (d := 23) (k := .sat (nT nb (some r) ((Bl.ty (⟨#[99, 104, 97, 114, 97, 99, 116, 101, 114]⟩) p0 l0).1) ((Bl.ty (⟨#[99, 104, 97, 114, 97, 99, 116, 101, 114]⟩) p0 l0).2))) (step_rTy (g := 990) (by kernel_rfl) (Opd.const _) (Opd.ofT (Opd.of_base 22 rfl)) (Opd.of_base 990 rfl) rfl) (by kernel_rfl) (by decide) h ?_
  clear h
  intro a w h
  refine env_one (i := 2) (d := 2) (k := .val (.int .i64 0)) (step_assign (by kernel_rfl) (Opd.const _) rfl) (by kernel_rfl) (by decide) h ?_
  clear h
  intro a w h
  refine env_store (i := 3) (x := 3) (y := 23) (r := r) [(1, .sat (nP 0 (some r) p0 l0)), (2, .val (.int .i64 0)), (990, .sat (gP nb (some r))), (4, .val (.bool false)), (22, .sat (nT 0 (some r) p0 l0)), (23, .sat (nT nb (some r) ((Bl.ty (⟨#[99, 104, 97, 114, 97, 99, 116, 101, 114]⟩) p0 l0).1) ((Bl.ty (⟨#[99, 104, 97, 114, 97, 99, 116, 101, 114]⟩) p0 l0).2)))] (by kernel_rfl) rfl rfl hr (stays_cons 1 rfl (away_nP _ _ _ _) (stays_cons 2 rfl (away_val _ _) (stays_cons 990 rfl (away_gP _ _ _) (stays_cons 4 rfl (away_val _ _) (stays_cons 22 rfl (away_nT _ _ _ _) (stays_cons 23 rfl (away_nT _ _ _ _) (stays_nil _ _))))))) h ?_
  clear h
  intro a w h
  refine env_one (i := 4) (d := 4) (k := .val (.bool false)) (step_assign (by kernel_rfl) (Opd.const _) rfl) (by kernel_rfl) (by decide) h ?_
  clear h
  intro a w h
  exact hQ a w (h.keep [1, 2, 990, 4, 3])
theorem rChar5b_region {Q : Exit → Act → World → Prop} (p0 : Pay) (l0 : Fo) (nb r : Nat) (h2 : p0.1 = 2) (h3 : ¬ ((p0.2.2.size : Nat) : Int) = 1) {w0 : World} {a : Act} {w : World} (hr : w0.heap.size ≤ r) (h : Hold 29 [(1, .sat (nP 0 (some r) p0 l0)), (2, .val (.int .i64 0)), (3, .sat (rC nb r zp .nil)), (990, .sat (gP nb (some r))), (4, .val (.bool false))] w0 a w)
    (hQ : ∀ a' w', Hold 29 [(1, .sat (nP 0 (some r) p0 l0)), (2, .val (.int .i64 0)), (3, .sat (rC nb r zp .nil)), (990, .sat (gP nb (some r))), (4, .val (.bool false)), (21, .val (.bool true))] w0 a' w' → Q .normal a' w') : (Code.region 5 rChar5Ops false).wp Try.prog Q a w := by
  refine region_seq (w0 := w) 9 (by kernel_rfl) ?_
  rw [show List.range 9 = [0, 1, 2, 3, 4, 5, 6, 7, 8] from rfl]
  refine env_one (i := 0) (d := 13) (k := .ptrI (p0.1)) (step_field0 (by kernel_rfl) (Opd.ofP (Opd.of_base 1 rfl)) rfl) (by kernel_rfl) (by decide) h ?_
  clear h
  intro a w h
  refine env_one (i := 1) (d := 14) (k := .val (.int .i64 (p0.1))) (step_load_int3 (by kernel_rfl) (Opd.of_base 13 rfl) rfl) (by kernel_rfl) (by decide) h ?_
  clear h
  intro a w h
  refine env_one (i := 2) (d := 15) (k := .val (.bool false)) (step_ne_int (m := (p0.1)) (n := 2) (by kernel_rfl) (Opd.of_base 14 rfl) (Opd.const _) (by rw [h2]; rfl) rfl) (by kernel_rfl) (by decide) h ?_
  clear h
  intro a w h
  refine env_one (i := 3) (d := 16) (k := .val (.bool false)) (step_move (by kernel_rfl) (Opd.of_base 15 rfl) rfl) (by kernel_rfl) (by decide) h ?_
  clear h
  intro a w h
  refine env_guard (i := 4) (d := 17) (g := 3) (dg := 16) (b := false) (k := .ptrS (p0.2.2)) (step_field2 (by kernel_rfl) (Opd.ofP (Opd.of_base 1 rfl)) rfl) (by kernel_rfl) (by decide) (by kernel_rfl) (by decide) rfl h ?_
  clear h
  intro a w h
  refine env_guard (i := 5) (d := 18) (g := 3) (dg := 16) (b := false) (k := .val (.string (p0.2.2))) (step_load_string (by kernel_rfl) (Opd.of_base 17 rfl) rfl) (by kernel_rfl) (by decide) (by kernel_rfl) (by decide) rfl h ?_
  clear h
  intro a w h
  refine env_guard (i := 6) (d := 19) (g := 3) (dg := 16) (b := false) (k := .val (.int .i64 (((p0.2.2).size : Nat) : Int))) (step_len_str (by kernel_rfl) (Opd.of_base 18 rfl) rfl) (by kernel_rfl) (by decide) (by kernel_rfl) (by decide) rfl h ?_
  clear h
  intro a w h
  refine env_guard (i := 7) (d := 20) (g := 3) (dg := 16) (b := false) (k := .val (.bool true)) (step_ne_int (m := (((p0.2.2).size : Nat) : Int)) (n := 1) (by kernel_rfl) (Opd.of_base 19 rfl) (Opd.const _) (by simpa using h3) rfl) (by kernel_rfl) (by decide) (by kernel_rfl) (by decide) rfl h ?_
  clear h
  intro a w h
  refine env_one (i := 8) (d := 21) (k := .val (.bool true)) (step_pick_no (x := .const (.bool true)) (by kernel_rfl) (Opd.of_base 16 rfl) (Opd.of_base 20 rfl) rfl) (by kernel_rfl) (by decide) h ?_
  clear h
  intro a w h
  exact hQ a w (h.keep [1, 2, 3, 990, 4, 21])
theorem rChar5c_region {Q : Exit → Act → World → Prop} (p0 : Pay) (l0 : Fo) (nb r : Nat) (h2 : p0.1 = 2) (h3 : ((p0.2.2.size : Nat) : Int) = 1) {w0 : World} {a : Act} {w : World} (hr : w0.heap.size ≤ r) (h : Hold 29 [(1, .sat (nP 0 (some r) p0 l0)), (2, .val (.int .i64 0)), (3, .sat (rC nb r zp .nil)), (990, .sat (gP nb (some r))), (4, .val (.bool false))] w0 a w)
    (hQ : ∀ a' w', Hold 29 [(1, .sat (nP 0 (some r) p0 l0)), (2, .val (.int .i64 0)), (3, .sat (rC nb r zp .nil)), (990, .sat (gP nb (some r))), (4, .val (.bool false)), (21, .val (.bool false))] w0 a' w' → Q .normal a' w') : (Code.region 5 rChar5Ops false).wp Try.prog Q a w := by
  refine region_seq (w0 := w) 9 (by kernel_rfl) ?_
  rw [show List.range 9 = [0, 1, 2, 3, 4, 5, 6, 7, 8] from rfl]
  refine env_one (i := 0) (d := 13) (k := .ptrI (p0.1)) (step_field0 (by kernel_rfl) (Opd.ofP (Opd.of_base 1 rfl)) rfl) (by kernel_rfl) (by decide) h ?_
  clear h
  intro a w h
  refine env_one (i := 1) (d := 14) (k := .val (.int .i64 (p0.1))) (step_load_int3 (by kernel_rfl) (Opd.of_base 13 rfl) rfl) (by kernel_rfl) (by decide) h ?_
  clear h
  intro a w h
  refine env_one (i := 2) (d := 15) (k := .val (.bool false)) (step_ne_int (m := (p0.1)) (n := 2) (by kernel_rfl) (Opd.of_base 14 rfl) (Opd.const _) (by rw [h2]; rfl) rfl) (by kernel_rfl) (by decide) h ?_
  clear h
  intro a w h
  refine env_one (i := 3) (d := 16) (k := .val (.bool false)) (step_move (by kernel_rfl) (Opd.of_base 15 rfl) rfl) (by kernel_rfl) (by decide) h ?_
  clear h
  intro a w h
  refine env_guard (i := 4) (d := 17) (g := 3) (dg := 16) (b := false) (k := .ptrS (p0.2.2)) (step_field2 (by kernel_rfl) (Opd.ofP (Opd.of_base 1 rfl)) rfl) (by kernel_rfl) (by decide) (by kernel_rfl) (by decide) rfl h ?_
  clear h
  intro a w h
  refine env_guard (i := 5) (d := 18) (g := 3) (dg := 16) (b := false) (k := .val (.string (p0.2.2))) (step_load_string (by kernel_rfl) (Opd.of_base 17 rfl) rfl) (by kernel_rfl) (by decide) (by kernel_rfl) (by decide) rfl h ?_
  clear h
  intro a w h
  refine env_guard (i := 6) (d := 19) (g := 3) (dg := 16) (b := false) (k := .val (.int .i64 (((p0.2.2).size : Nat) : Int))) (step_len_str (by kernel_rfl) (Opd.of_base 18 rfl) rfl) (by kernel_rfl) (by decide) (by kernel_rfl) (by decide) rfl h ?_
  clear h
  intro a w h
  refine env_guard (i := 7) (d := 20) (g := 3) (dg := 16) (b := false) (k := .val (.bool false)) (step_ne_int (m := (((p0.2.2).size : Nat) : Int)) (n := 1) (by kernel_rfl) (Opd.of_base 19 rfl) (Opd.const _) (by rw [h3]; rfl) rfl) (by kernel_rfl) (by decide) (by kernel_rfl) (by decide) rfl h ?_
  clear h
  intro a w h
  refine env_one (i := 8) (d := 21) (k := .val (.bool false)) (step_pick_no (x := .const (.bool true)) (by kernel_rfl) (Opd.of_base 16 rfl) (Opd.of_base 20 rfl) rfl) (by kernel_rfl) (by decide) h ?_
  clear h
  intro a w h
  exact hQ a w (h.keep [1, 2, 3, 990, 4, 21])
theorem rChar7a_region {Q : Exit → Act → World → Prop} (p0 : Pay) (l0 : Fo) (nb r : Nat) (hs0 : 0 < p0.2.2.size) {w0 : World} {a : Act} {w : World} (hr : w0.heap.size ≤ r) (h : Hold 29 [(1, .sat (nP 0 (some r) p0 l0)), (2, .val (.int .i64 0)), (3, .sat (rC nb r zp .nil)), (990, .sat (gP nb (some r))), (4, .val (.bool false))] w0 a w)
    (hQ : ∀ a' w', Hold 29 [(2, .val (.int .i64 ((byte0 (p0.2.2) : Nat) : Int))), (990, .sat (gP nb (some r))), (4, .val (.bool true)), (3, .sat (rC nb r zp .nil))] w0 a' w' → Q .normal a' w') : (Code.region 7 rChar7Ops false).wp Try.prog Q a w := by
  refine region_seq (w0 := w) 8 (by kernel_rfl) ?_
  rw [show List.range 8 = [0, 1, 2, 3, 4, 5, 6, 7] from rfl]
  refine env_one (i := 0) (d := 24) (k := .ptrS (p0.2.2)) (step_field2 (by kernel_rfl) (Opd.ofP (Opd.of_base 1 rfl)) rfl) (by kernel_rfl) (by decide) h ?_
  clear h
  intro a w h
  refine env_one (i := 1) (d := 25) (k := .val (.string (p0.2.2))) (step_load_string (by kernel_rfl) (Opd.of_base 24 rfl) rfl) (by kernel_rfl) (by decide) h ?_
  clear h
  intro a w h
  refine env_one (i := 2) (d := 26) (k := .val (.int .u8 ((byte0 (p0.2.2) : Nat) : Int))) (step_byte0 hs0 (by kernel_rfl) (Opd.of_base 25 rfl) rfl) (by kernel_rfl) (by decide) h ?_
  clear h
  intro a w h
  refine env_one (i := 3) (d := 27) (k := .val (.int .i64 ((byte0 (p0.2.2) : Nat) : Int))) (step_conv8 (z := byte0 (p0.2.2)) (byte0_lt _) (by kernel_rfl) (Opd.of_base 26 rfl) rfl) (by kernel_rfl) (by decide) h ?_
  clear h
  intro a w h
  refine env_one (i := 4) (d := 28) (k := .sat (nT nb (some r) zp .nil)) (step_nzero (by kernel_rfl) rfl) (by kernel_rfl) (by decide) h ?_
  clear h
  intro a w h
  refine env_one (i := 5) (d := 2) (k := .val (.int .i64 ((byte0 (p0.2.2) : Nat) : Int))) (step_assign (by kernel_rfl) (Opd.of_base 27 rfl) rfl) (by kernel_rfl) (by decide) h ?_
  clear h
  intro a w h
  refine env_store (i := 6) (x := 3) (y := 28) (r := r) [(1, .sat (nP 0 (some r) p0 l0)), (2, .val (.int .i64 ((byte0 (p0.2.2) : Nat) : Int))), (990, .sat (gP nb (some r))), (4, .val (.bool false)), (25, .val (.string (p0.2.2))), (26, .val (.int .u8 ((byte0 (p0.2.2) : Nat) : Int))), (27, .val (.int .i64 ((byte0 (p0.2.2) : Nat) : Int))), (28, .sat (nT nb (some r) zp .nil))] (by kernel_rfl) rfl rfl hr (stays_cons 1 rfl (away_nP _ _ _ _) (stays_cons 2 rfl (away_val _ _) (stays_cons 990 rfl (away_gP _ _ _) (stays_cons 4 rfl (away_val _ _) (stays_cons 25 rfl (away_val _ _) (stays_cons 26 rfl (away_val _ _) (stays_cons 27 rfl (away_val _ _) (stays_cons 28 rfl (away_nT _ _ _ _) (stays_nil _ _))))))))) h ?_
  clear h
  intro a w h
  refine env_one (i := 7) (d := 4) (k := .val (.bool true)) (step_assign (by kernel_rfl) (Opd.const _) rfl) (by kernel_rfl) (by decide) h ?_
  clear h
  intro a w h
  exact hQ a w (h.keep [2, 990, 4, 3])
theorem rChar2a_region {Q : Exit → Act → World → Prop} (p0 : Pay) (l0 : Fo) (nb r : Nat)  {w0 : World} {a : Act} {w : World} (hr : w0.heap.size ≤ r) (h : Hold 29 [(1, .sat (nP 0 (some r) p0 l0)), (2, .val (.int .i64 0)), (3, .sat (rC nb r zp .nil)), (990, .sat (gP nb (some r))), (4, .val (.bool false))] w0 a w)
    (hQ : ∀ a' w', Hold 29 [(1, .sat (nP 0 (some r) p0 l0)), (2, .val (.int .i64 0)), (990, .sat (gP nb (some r))), (4, .val (.bool false)), (3, .sat (rC nb r zp .nil))] w0 a' w' → Q .normal a' w') : (Code.region 2 rChar2Ops false).wp Try.prog Q a w := by
  refine region_seq (w0 := w) 4 (by kernel_rfl) ?_
  rw [show List.range 4 = [0, 1, 2, 3] from rfl]
  refine env_one (i := 0) (d := 8) (k := .sat (nT nb (some r) zp .nil)) (step_nzero (by kernel_rfl) rfl) (by kernel_rfl) (by decide) h ?_
  clear h
  intro a w h
  refine env_one (i := 1) (d := 2) (k := .val (.int .i64 0)) (step_assign (by kernel_rfl) (Opd.const _) rfl) (by kernel_rfl) (by decide) h ?_
  clear h
  intro a w h
  refine env_store (i := 2) (x := 3) (y := 8) (r := r) [(1, .sat (nP 0 (some r) p0 l0)), (2, .val (.int .i64 0)), (990, .sat (gP nb (some r))), (4, .val (.bool false)), (8, .sat (nT nb (some r) zp .nil))] (by kernel_rfl) rfl rfl hr (stays_cons 1 rfl (away_nP _ _ _ _) (stays_cons 2 rfl (away_val _ _) (stays_cons 990 rfl (away_gP _ _ _) (stays_cons 4 rfl (away_val _ _) (stays_cons 8 rfl (away_nT _ _ _ _) (stays_nil _ _)))))) h ?_
  clear h
  intro a w h
  refine env_one (i := 3) (d := 4) (k := .val (.bool false)) (step_assign (by kernel_rfl) (Opd.const _) rfl) (by kernel_rfl) (by decide) h ?_
  clear h
  intro a w h
  exact hQ a w (h.keep [1, 2, 990, 4, 3])
set_option maxHeartbeats 1000000 in
theorem rChar_any (p0 : Pay) (l0 : Fo) (A0 : Option Addr) (c0 : Nat) (B : Nat) (w : World) (hA0 : ArgsB w B A0 (Tm.len l0) l0) (hB : B ≤ w.heap.size)  : Calls Try.prog 46 #[tv p0 A0 (Tm.len l0) c0] w (MkXB w.heap.size (.int .i64 (Bl.char p0 l0).1) ((Bl.char p0 l0).2.1).1 ((Bl.char p0 l0).2.1).2 ((Bl.char p0 l0).2.2) w) := by
  refine calls_of_wp Try.func46 rChar_body ?_
  obtain ⟨v0, hv0⟩ : ∃ v : Value, v = tv p0 A0 (Tm.len l0) c0 := ⟨_, rfl⟩
  rw [← hv0]
  have hk0 : (Kd.term p0 l0).R v0 w := by rw [hv0]; exact ⟨A0, c0, rfl, hA0.up hB⟩
  have hsN : (#[v0] ++ Array.replicate (Try.f46.ntmps - #[v0].size) undef : Array Value).size = 29 := by kernel_rfl
  have gs0 : (#[v0] ++ Array.replicate (Try.f46.ntmps - #[v0].size) undef : Array Value).getD 0 undef = v0 := by kernel_rfl
  generalize (#[v0] ++ Array.replicate (Try.f46.ntmps - #[v0].size) undef : Array Value) = tm at hsN gs0 ⊢
  obtain ⟨a, ha0⟩ : ∃ a : Act, a = ⟨tm, []⟩ := ⟨_, rfl⟩
  have h : Hold 29 [(0, .term p0 l0)] w ⟨tm, []⟩ w := ⟨hsN, rfl, Below.refl _ _, (slots_cons 0 (by rw [gs0]; exact hk0) slots_nil)⟩
  obtain ⟨nb, hnb⟩ : ∃ nb, nb = w.heap.size := ⟨_, rfl⟩
  have hn : nb ≤ w.heap.size := by omega
  refine wp_seq ?_
  refine rChar0a_region p0 l0 nb  hn h ?_
  intro r a w1 hr h
  show Code.wp _ _ _ a w1
  refine wp_seq ?_
  refine wp_seq ?_
  refine rChar1a_region p0 l0 nb r  hr h ?_
  intro a w1 h
  rcases Bool.eq_false_or_eq_true (Tm.validB p0 l0) with hv | hv
  · rw [hv] at h
    (try simp only [Bool.not_true, Bool.not_false] at h)
    show Code.wp _ _ _ a w1
    refine env_cond (b := false) rfl h ?_
    refine wp_skip ?_
    have h := h.keep [1, 2, 3, 990, 4]
    show Code.wp _ _ _ a w1
    refine wp_seq ?_
    refine wp_seq ?_
    by_cases h1 : p0.1 = 0
    · refine rChar3a_region p0 l0 nb r h1 hr h ?_
      intro a w1 h
      show Code.wp _ _ _ a w1
      refine env_cond (b := true) rfl h ?_
      have h := h.keep [1, 2, 3, 990, 4]
      show Code.wp _ _ _ a w1
      refine wp_seq ?_
      refine rChar4a_region p0 l0 nb r  hr h ?_
      intro a w1 h
      show Code.wp _ _ _ a w1
      have ev : Bl.char p0 l0 = (0, ((Bl.inst.1, Bl.inst.2), false)) := by simp [Bl.char, Bl.check, hv, h1]
      rw [ev]
      refine wp_ret ?_
      (try simp only [then_ret, block_ret])
      exact law_xcb rfl (h.get 2 rfl) (h.get 4 rfl) (h.get 3 rfl) h.defers fun A c ha => ⟨A, c, rfl, ha.mono fun b hb => ⟨by have := hb.1; omega, hb.2.1⟩, h.world⟩
    · refine rChar3b_region p0 l0 nb r h1 hr h ?_
      intro a w1 h
      show Code.wp _ _ _ a w1
      refine env_cond (b := false) rfl h ?_
      refine wp_skip ?_
      have h := h.keep [1, 2, 3, 990, 4]
      show Code.wp _ _ _ a w1
      refine wp_seq ?_
      refine wp_seq ?_
      by_cases h2 : p0.1 = 2
      rotate_left
      · have hi : Bl.isCh p0 = false := by unfold Bl.isCh; rw [show (p0.1 == 2) = false by simpa using h2]; rfl
        refine rChar5a_region p0 l0 nb r h2 hr h ?_
        intro a w1 h
        show Code.wp _ _ _ a w1
        refine env_cond (b := true) rfl h ?_
        have h := h.keep [1, 2, 3, 990, 4]
        show Code.wp _ _ _ a w1
        refine wp_seq ?_
        refine rChar6a_region p0 l0 nb r  hr h ?_
        intro a w1 h
        show Code.wp _ _ _ a w1
        have ev : Bl.char p0 l0 = (0, (((Bl.ty (⟨#[99, 104, 97, 114, 97, 99, 116, 101, 114]⟩) p0 l0).1, (Bl.ty (⟨#[99, 104, 97, 114, 97, 99, 116, 101, 114]⟩) p0 l0).2), false)) := by simp [Bl.char, Bl.check, hv, h1, hi]
        rw [ev]
        refine wp_ret ?_
        (try simp only [then_ret, block_ret])
        exact law_xcb rfl (h.get 2 rfl) (h.get 4 rfl) (h.get 3 rfl) h.defers fun A c ha => ⟨A, c, rfl, ha.mono fun b hb => ⟨by have := hb.1; omega, hb.2.1⟩, h.world⟩
      by_cases h3 : ((p0.2.2.size : Nat) : Int) = 1
      rotate_left
      · have hi : Bl.isCh p0 = false := by unfold Bl.isCh; rw [show (((p0.2.2.size : Nat) : Int) == 1) = false by simpa using h3, Bool.and_false]
        refine rChar5b_region p0 l0 nb r h2 h3 hr h ?_
        intro a w1 h
        show Code.wp _ _ _ a w1
        refine env_cond (b := true) rfl h ?_
        have h := h.keep [1, 2, 3, 990, 4]
        show Code.wp _ _ _ a w1
        refine wp_seq ?_
        refine rChar6a_region p0 l0 nb r  hr h ?_
        intro a w1 h
        show Code.wp _ _ _ a w1
        have ev : Bl.char p0 l0 = (0, (((Bl.ty (⟨#[99, 104, 97, 114, 97, 99, 116, 101, 114]⟩) p0 l0).1, (Bl.ty (⟨#[99, 104, 97, 114, 97, 99, 116, 101, 114]⟩) p0 l0).2), false)) := by simp [Bl.char, Bl.check, hv, h1, hi]
        rw [ev]
        refine wp_ret ?_
        (try simp only [then_ret, block_ret])
        exact law_xcb rfl (h.get 2 rfl) (h.get 4 rfl) (h.get 3 rfl) h.defers fun A c ha => ⟨A, c, rfl, ha.mono fun b hb => ⟨by have := hb.1; omega, hb.2.1⟩, h.world⟩
      · have hi : Bl.isCh p0 = true := by unfold Bl.isCh; rw [h2, h3]; rfl
        have hs0 : 0 < p0.2.2.size := by omega
        refine rChar5c_region p0 l0 nb r h2 h3 hr h ?_
        intro a w1 h
        show Code.wp _ _ _ a w1
        refine env_cond (b := false) rfl h ?_
        refine wp_skip ?_
        have h := h.keep [1, 2, 3, 990, 4]
        show Code.wp _ _ _ a w1
        refine wp_seq ?_
        refine rChar7a_region p0 l0 nb r hs0 hr h ?_
        intro a w1 h
        show Code.wp _ _ _ a w1
        have ev : Bl.char p0 l0 = (((byte0 (p0.2.2) : Nat) : Int), ((zp, .nil), true)) := by simp [Bl.char, Bl.check, hv, h1, hi]
        rw [ev]
        refine wp_ret ?_
        (try simp only [then_ret, block_ret])
        exact law_xcb rfl (h.get 2 rfl) (h.get 4 rfl) (h.get 3 rfl) h.defers fun A c ha => ⟨A, c, rfl, ha.mono fun b hb => ⟨by have := hb.1; omega, hb.2.1⟩, h.world⟩
  · rw [hv] at h
    (try simp only [Bool.not_true, Bool.not_false] at h)
    show Code.wp _ _ _ a w1
    refine env_cond (b := true) rfl h ?_
    have h := h.keep [1, 2, 3, 990, 4]
    show Code.wp _ _ _ a w1
    refine wp_seq ?_
    refine rChar2a_region p0 l0 nb r  hr h ?_
    intro a w1 h
    show Code.wp _ _ _ a w1
    have ev : Bl.char p0 l0 = (0, ((zp, .nil), false)) := by simp [Bl.char, Bl.check, hv]
    rw [ev]
    refine wp_ret ?_
    (try simp only [then_ret, block_ret])
    exact law_xcb rfl (h.get 2 rfl) (h.get 4 rfl) (h.get 3 rfl) h.defers fun A c ha => ⟨A, c, rfl, ha.mono fun b hb => ⟨by have := hb.1; omega, hb.2.1⟩, h.world⟩
section
variable {ops : Array Oper} {Q : Exit → Act → World → Prop} {E : Nat → Kd} {D : Nat → Nat} {base : Nat → Option Kd} {N : Nat}
theorem step_rChar {i : Nat} {n g : Nat} {G : Option Nat} {x0 : Operand} {p0 : Pay} {l0 : Fo} (hop : (ops[i]?).map (·.op) = some (.call { callee := .value (.func 46), args := #[x0], argTypes := #[24] })) (h0 : Opd ops E D base N i x0 (.term p0 l0)) (hg : Opd ops E D base N i (.tmp g) (.sat (gP n G))) (hE : E i = .sat (nT3 n G (.int .i64 (Bl.char p0 l0).1) ((Bl.char p0 l0).2.1).1 ((Bl.char p0 l0).2.1).2 ((Bl.char p0 l0).2.2))) : Step Try.prog ops Q E D base N i :=
  step_mkXB hop (fun _ _ => by kernel_rfl) hg (fun a w h => by
    obtain ⟨A0, c0, e0, ha0⟩ := h0 a w h
    rw [show (#[x0] : Array Operand).map a.eval = #[tv p0 A0 (Tm.len l0) c0] by rw [← e0]; simp]
    exact rChar_any p0 l0 A0 c0 w.heap.size w ha0 (Nat.le_refl _)) hE
end
noncomputable def rCode0Ops : Array Oper := ((Try.f48.body).bind (findReg 0)).getD #[]
noncomputable def rCode1Ops : Array Oper := ((Try.f48.body).bind (findReg 1)).getD #[]
noncomputable def rCode2Ops : Array Oper := ((Try.f48.body).bind (findReg 2)).getD #[]
noncomputable def rCode3Ops : Array Oper := ((Try.f48.body).bind (findReg 3)).getD #[]
noncomputable def rCode4Ops : Array Oper := ((Try.f48.body).bind (findReg 4)).getD #[]
noncomputable def rCode5Ops : Array Oper := ((Try.f48.body).bind (findReg 5)).getD #[]
noncomputable def rCode6Ops : Array Oper := ((Try.f48.body).bind (findReg 6)).getD #[]
theorem rCode_body : Try.f48.body = some (.seq (.region 0 rCode0Ops false) (.seq (.region 1 rCode1Ops false) (.seq (.seq (.region 2 rCode2Ops false) (.cond (.tmp 15) (.seq (.region 3 rCode3Ops true) .ret) .skip)) (.seq (.seq (.region 4 rCode4Ops false) (.cond (.tmp 22) (.seq (.region 5 rCode5Ops false) .ret) .skip)) (.seq (.region 6 rCode6Ops false) .ret))))) := by kernel_rfl
theorem rCode0a_region {Q : Exit → Act → World → Prop} (p0 : Pay) (l0 : Fo) (nb : Nat)  {w0 : World} {a : Act} {w : World} (hn : nb ≤ w0.heap.size) (h : Hold 26 [(0, .term p0 l0)] w0 a w)
    (hQ : ∀ r a' w', w0.heap.size ≤ r → Hold 26 [(1, .sat (nP 0 (some r) p0 l0)), (2, .val (.int .i64 0)), (3, .sat (rC nb r zp .nil)), (990, .sat (gP nb (some r))), (4, .val (.bool false))] w0 a' w' → Q .normal a' w') : (Code.region 0 rCode0Ops false).wp Try.prog Q a w := by
  refine region_seq (w0 := w) 4 (by kernel_rfl) ?_
  rw [show List.range 4 = [0, 1, 2, 3] from rfl]
  refine env_one (i := 0) (d := 1) (k := .ptrT p0 l0) (step_box (by kernel_rfl) (Opd.of_base 0 rfl) rfl) (by kernel_rfl) (by decide) h ?_
  clear h
  intro a w h
  refine env_one (i := 1) (d := 2) (k := .val (.int .i64 0)) (step_assign (by kernel_rfl) (Opd.const _) rfl) (by kernel_rfl) (by decide) h ?_
  clear h
  intro a w h
  refine env_res (i := 2) (d := 3) (n := nb) (fun r => [(0, .sat (nT 0 (some r) p0 l0)), (1, .sat (nP 0 (some r) p0 l0)), (2, .val (.int .i64 0))]) (by kernel_rfl) (by decide) (by decide) hn (fun r => (goes_cons 0 rfl (turns_term _ _ _) (goes_cons 1 rfl (turns_ptr _ _ _) (goes_cons 2 rfl (turns_val _ _) (goes_nil _ _))))) h ?_
  clear h
  intro r a w hr h
  refine env_one (i := 3) (d := 4) (k := .val (.bool false)) (step_assign (by kernel_rfl) (Opd.const _) rfl) (by kernel_rfl) (by decide) h ?_
  clear h
  intro a w h
  exact hQ r a w hr (h.keep [1, 2, 3, 990, 4])
theorem rCode1a_region {Q : Exit → Act → World → Prop} (p0 : Pay) (l0 : Fo) (nb r : Nat)  {w0 : World} {a : Act} {w : World} (hr : w0.heap.size ≤ r) (h : Hold 26 [(1, .sat (nP 0 (some r) p0 l0)), (2, .val (.int .i64 0)), (3, .sat (rC nb r zp .nil)), (990, .sat (gP nb (some r))), (4, .val (.bool false))] w0 a w)
    (hQ : ∀ a' w', Hold 26 [(2, .val (.int .i64 0)), (3, .sat (rC nb r zp .nil)), (990, .sat (gP nb (some r))), (4, .val (.bool false)), (6, .sat (nP nb (some r) (((Bl.int p0 l0).2.1).1) (((Bl.int p0 l0).2.1).2))), (5, .val (.int .i64 (Bl.int p0 l0).1)), (7, .val (.bool ((Bl.int p0 l0).2.2)))] w0 a' w' → Q .normal a' w') : (Code.region 1 rCode1Ops false).wp Try.prog Q a w := by
  refine region_seq (w0 := w) 10 (by kernel_rfl) ?_
  rw [show List.range 10 = [0, 1, 2, 3, 4, 5, 6, 7, 8, 9] from rfl]
  refine env_one (i := 0) (d := 9) (k := .sat (nT 0 (some r) p0 l0)) (step_nload (by kernel_rfl) (Opd.of_base 1 rfl) rfl) (by kernel_rfl) (by decide) h ?_
  clear h
  intro a w h
  refine env_one (i := 1) (d := 10) (k := .sat (nT3 nb (some r) (.int .i64 (Bl.int p0 l0).1) (((Bl.int p0 l0).2.1).1) (((Bl.int p0 l0).2.1).2) ((Bl.int p0 l0).2.2))) (step_rInt6 (g := 990) (by kernel_rfl) (Opd.ofT (Opd.of_base 9 rfl)) (Opd.of_base 990 rfl) rfl) (by kernel_rfl) (by decide) h ?_
  clear h
  intro a w h
  refine env_one (i := 2) (d := 8) (k := .sat (nT3 nb (some r) (.int .i64 (Bl.int p0 l0).1) (((Bl.int p0 l0).2.1).1) (((Bl.int p0 l0).2.1).2) ((Bl.int p0 l0).2.2))) (step_move (by kernel_rfl) (Opd.of_base 10 rfl) rfl) (by kernel_rfl) (by decide) h ?_
  clear h
  intro a w h
  refine env_one (i := 3) (d := 11) (k := .val (.int .i64 (Bl.int p0 l0).1)) (step_nT3_0 (by kernel_rfl) (Opd.of_base 8 rfl) rfl) (by kernel_rfl) (by decide) h ?_
  clear h
  intro a w h
  refine env_one (i := 4) (d := 12) (k := .sat (nT nb (some r) (((Bl.int p0 l0).2.1).1) (((Bl.int p0 l0).2.1).2))) (step_nT3_1 (by kernel_rfl) (Opd.of_base 8 rfl) rfl) (by kernel_rfl) (by decide) h ?_
  clear h
  intro a w h
  refine env_one (i := 5) (d := 13) (k := .val (.bool ((Bl.int p0 l0).2.2))) (step_nT3_2 (by kernel_rfl) (Opd.of_base 8 rfl) rfl) (by kernel_rfl) (by decide) h ?_
  clear h
  intro a w h
  refine env_nbox3 (i := 6) (d := 6) (e := 5) (by kernel_rfl) (by decide) (by kernel_rfl) (by decide) (x := 11) rfl (by decide) (by decide) (by kernel_rfl) (by decide) (by decide) (s := 12) rfl rfl h ?_
  clear h
  intro a w h
  refine env_one (i := 9) (d := 7) (k := .val (.bool ((Bl.int p0 l0).2.2))) (step_assign (by kernel_rfl) (Opd.of_base 13 rfl) rfl) (by kernel_rfl) (by decide) h ?_
  clear h
  intro a w h
  exact hQ a w (h.keep [2, 3, 990, 4, 6, 5, 7])
theorem rCode2a_region {Q : Exit → Act → World → Prop} (p0 : Pay) (l0 : Fo) (nb r : Nat)  {w0 : World} {a : Act} {w : World} (hr : w0.heap.size ≤ r) (h : Hold 26 [(2, .val (.int .i64 0)), (3, .sat (rC nb r zp .nil)), (990, .sat (gP nb (some r))), (4, .val (.bool false)), (6, .sat (nP nb (some r) (((Bl.int p0 l0).2.1).1) (((Bl.int p0 l0).2.1).2))), (5, .val (.int .i64 (Bl.int p0 l0).1)), (7, .val (.bool true))] w0 a w)
    (hQ : ∀ a' w', Hold 26 [(2, .val (.int .i64 0)), (3, .sat (rC nb r zp .nil)), (990, .sat (gP nb (some r))), (4, .val (.bool false)), (6, .sat (nP nb (some r) (((Bl.int p0 l0).2.1).1) (((Bl.int p0 l0).2.1).2))), (5, .val (.int .i64 (Bl.int p0 l0).1)), (15, .val (.bool false))] w0 a' w' → Q .normal a' w') : (Code.region 2 rCode2Ops false).wp Try.prog Q a w := by
  refine region_seq (w0 := w) 2 (by kernel_rfl) ?_
  rw [show List.range 2 = [0, 1] from rfl]
  refine env_one (i := 0) (d := 14) (k := .val (.bool true)) (step_move (by kernel_rfl) (Opd.of_base 7 rfl) rfl) (by kernel_rfl) (by decide) h ?_
  clear h
  intro a w h
  refine env_one (i := 1) (d := 15) (k := .val (.bool false)) (step_not (by kernel_rfl) (Opd.of_base 14 rfl) rfl) (by kernel_rfl) (by decide) h ?_
  clear h
  intro a w h
  exact hQ a w (h.keep [2, 3, 990, 4, 6, 5, 15])
theorem rCode4a_region {Q : Exit → Act → World → Prop} (p0 : Pay) (l0 : Fo) (nb r : Nat) (h1 : ¬ (Bl.int p0 l0).1 < 0) (h2 : ¬ 255 < (Bl.int p0 l0).1) {w0 : World} {a : Act} {w : World} (hr : w0.heap.size ≤ r) (h : Hold 26 [(2, .val (.int .i64 0)), (3, .sat (rC nb r zp .nil)), (990, .sat (gP nb (some r))), (4, .val (.bool false)), (5, .val (.int .i64 (Bl.int p0 l0).1))] w0 a w)
    (hQ : ∀ a' w', Hold 26 [(2, .val (.int .i64 0)), (3, .sat (rC nb r zp .nil)), (990, .sat (gP nb (some r))), (4, .val (.bool false)), (5, .val (.int .i64 (Bl.int p0 l0).1)), (22, .val (.bool false))] w0 a' w' → Q .normal a' w') : (Code.region 4 rCode4Ops false).wp Try.prog Q a w := by
  refine region_seq (w0 := w) 6 (by kernel_rfl) ?_
  rw [show List.range 6 = [0, 1, 2, 3, 4, 5] from rfl]
  refine env_one (i := 0) (d := 17) (k := .val (.int .i64 (Bl.int p0 l0).1)) (step_move (by kernel_rfl) (Opd.of_base 5 rfl) rfl) (by kernel_rfl) (by decide) h ?_
  clear h
  intro a w h
  refine env_one (i := 1) (d := 18) (k := .val (.bool false)) (step_lt_int64 (m := (Bl.int p0 l0).1) (n := 0) (by kernel_rfl) (Opd.of_base 17 rfl) (Opd.const _) (decide_eq_false h1) rfl) (by kernel_rfl) (by decide) h ?_
  clear h
  intro a w h
  refine env_one (i := 2) (d := 19) (k := .val (.bool false)) (step_move (by kernel_rfl) (Opd.of_base 18 rfl) rfl) (by kernel_rfl) (by decide) h ?_
  clear h
  intro a w h
  refine env_guard (i := 3) (d := 20) (g := 2) (dg := 19) (b := false) (k := .val (.int .i64 (Bl.int p0 l0).1)) (step_move (by kernel_rfl) (Opd.of_base 5 rfl) rfl) (by kernel_rfl) (by decide) (by kernel_rfl) (by decide) rfl h ?_
  clear h
  intro a w h
  refine env_guard (i := 4) (d := 21) (g := 2) (dg := 19) (b := false) (k := .val (.bool false)) (step_gt_int64 (m := (Bl.int p0 l0).1) (n := 255) (by kernel_rfl) (Opd.of_base 20 rfl) (Opd.const _) (decide_eq_false h2) rfl) (by kernel_rfl) (by decide) (by kernel_rfl) (by decide) rfl h ?_
  clear h
  intro a w h
  refine env_one (i := 5) (d := 22) (k := .val (.bool false)) (step_pick_no (x := .const (.bool true)) (by kernel_rfl) (Opd.of_base 19 rfl) (Opd.of_base 21 rfl) rfl) (by kernel_rfl) (by decide) h ?_
  clear h
  intro a w h
  exact hQ a w (h.keep [2, 3, 990, 4, 5, 22])
theorem rCode6a_region {Q : Exit → Act → World → Prop} (p0 : Pay) (l0 : Fo) (nb r : Nat)  {w0 : World} {a : Act} {w : World} (hr : w0.heap.size ≤ r) (h : Hold 26 [(2, .val (.int .i64 0)), (3, .sat (rC nb r zp .nil)), (990, .sat (gP nb (some r))), (4, .val (.bool false)), (5, .val (.int .i64 (Bl.int p0 l0).1))] w0 a w)
    (hQ : ∀ a' w', Hold 26 [(2, .val (.int .i64 (Bl.int p0 l0).1)), (990, .sat (gP nb (some r))), (4, .val (.bool true)), (3, .sat (rC nb r zp .nil))] w0 a' w' → Q .normal a' w') : (Code.region 6 rCode6Ops false).wp Try.prog Q a w := by
  refine region_seq (w0 := w) 5 (by kernel_rfl) ?_
  rw [show List.range 5 = [0, 1, 2, 3, 4] from rfl]
  refine env_one (i := 0) (d := 24) (k := .val (.int .i64 (Bl.int p0 l0).1)) (step_move (by kernel_rfl) (Opd.of_base 5 rfl) rfl) (by kernel_rfl) (by decide) h ?_
  clear h
  intro a w h
  refine env_one (i := 1) (d := 25) (k := .sat (nT nb (some r) zp .nil)) (step_nzero (by kernel_rfl) rfl) (by kernel_rfl) (by decide) h ?_
  clear h
  intro a w h
  refine env_one (i := 2) (d := 2) (k := .val (.int .i64 (Bl.int p0 l0).1)) (step_assign (by kernel_rfl) (Opd.of_base 24 rfl) rfl) (by kernel_rfl) (by decide) h ?_
  clear h
  intro a w h
  refine env_store (i := 3) (x := 3) (y := 25) (r := r) [(2, .val (.int .i64 (Bl.int p0 l0).1)), (990, .sat (gP nb (some r))), (4, .val (.bool false)), (5, .val (.int .i64 (Bl.int p0 l0).1)), (24, .val (.int .i64 (Bl.int p0 l0).1)), (25, .sat (nT nb (some r) zp .nil))] (by kernel_rfl) rfl rfl hr (stays_cons 2 rfl (away_val _ _) (stays_cons 990 rfl (away_gP _ _ _) (stays_cons 4 rfl (away_val _ _) (stays_cons 5 rfl (away_val _ _) (stays_cons 24 rfl (away_val _ _) (stays_cons 25 rfl (away_nT _ _ _ _) (stays_nil _ _))))))) h ?_
  clear h
  intro a w h
  refine env_one (i := 4) (d := 4) (k := .val (.bool true)) (step_assign (by kernel_rfl) (Opd.const _) rfl) (by kernel_rfl) (by decide) h ?_
  clear h
  intro a w h
  exact hQ a w (h.keep [2, 990, 4, 3])
theorem rCode4b_region {Q : Exit → Act → World → Prop} (p0 : Pay) (l0 : Fo) (nb r : Nat) (h1 : (Bl.int p0 l0).1 < 0) {w0 : World} {a : Act} {w : World} (hr : w0.heap.size ≤ r) (h : Hold 26 [(2, .val (.int .i64 0)), (3, .sat (rC nb r zp .nil)), (990, .sat (gP nb (some r))), (4, .val (.bool false)), (5, .val (.int .i64 (Bl.int p0 l0).1))] w0 a w)
    (hQ : ∀ a' w', Hold 26 [(2, .val (.int .i64 0)), (3, .sat (rC nb r zp .nil)), (990, .sat (gP nb (some r))), (4, .val (.bool false)), (5, .val (.int .i64 (Bl.int p0 l0).1)), (22, .val (.bool true))] w0 a' w' → Q .normal a' w') : (Code.region 4 rCode4Ops false).wp Try.prog Q a w := by
  refine region_seq (w0 := w) 6 (by kernel_rfl) ?_
  rw [show List.range 6 = [0, 1, 2, 3, 4, 5] from rfl]
  refine env_one (i := 0) (d := 17) (k := .val (.int .i64 (Bl.int p0 l0).1)) (step_move (by kernel_rfl) (Opd.of_base 5 rfl) rfl) (by kernel_rfl) (by decide) h ?_
  clear h
  intro a w h
  refine env_one (i := 1) (d := 18) (k := .val (.bool true)) (step_lt_int64 (m := (Bl.int p0 l0).1) (n := 0) (by kernel_rfl) (Opd.of_base 17 rfl) (Opd.const _) (decide_eq_true h1) rfl) (by kernel_rfl) (by decide) h ?_
  clear h
  intro a w h
  refine env_one (i := 2) (d := 19) (k := .val (.bool true)) (step_move (by kernel_rfl) (Opd.of_base 18 rfl) rfl) (by kernel_rfl) (by decide) h ?_
  clear h
  intro a w h
  refine env_skip (i := 3) (d := 20) (g := 2) (dg := 19) (b := false) (by kernel_rfl) (by decide) (by kernel_rfl) rfl rfl h ?_
  clear h
  intro a w h
  refine env_skip (i := 4) (d := 21) (g := 2) (dg := 19) (b := false) (by kernel_rfl) (by decide) (by kernel_rfl) rfl rfl h ?_
  clear h
  intro a w h
  refine env_one (i := 5) (d := 22) (k := .val (.bool true)) (step_pick_yes (y := .tmp 21) (by kernel_rfl) (Opd.of_base 19 rfl) (Opd.const _) rfl) (by kernel_rfl) (by decide) h ?_
  clear h
  intro a w h
  exact hQ a w (h.keep [2, 3, 990, 4, 5, 22])
theorem rCode5a_region {Q : Exit → Act → World → Prop} (p0 : Pay) (l0 : Fo) (nb r : Nat)  {w0 : World} {a : Act} {w : World} (hr : w0.heap.size ≤ r) (h : Hold 26 [(2, .val (.int .i64 0)), (3, .sat (rC nb r zp .nil)), (990, .sat (gP nb (some r))), (4, .val (.bool false)), (5, .val (.int .i64 (Bl.int p0 l0).1))] w0 a w)
    (hQ : ∀ a' w', Hold 26 [(2, .val (.int .i64 0)), (990, .sat (gP nb (some r))), (4, .val (.bool false)), (5, .val (.int .i64 (Bl.int p0 l0).1)), (3, .sat (rC nb r ((Bl.rep (⟨#[99, 104, 97, 114, 97, 99, 116, 101, 114, 95, 99, 111, 100, 101]⟩)).1) ((Bl.rep (⟨#[99, 104, 97, 114, 97, 99, 116, 101, 114, 95, 99, 111, 100, 101]⟩)).2)))] w0 a' w' → Q .normal a' w') : (Code.region 5 rCode5Ops false).wp Try.prog Q a w := by
  refine region_seq (w0 := w) 4 (by kernel_rfl) ?_
  rw [show List.range 4 = [0, 1, 2, 3] from rfl]
  refine env_one (i := 0) (d := 23) (k := .sat (nT nb (some r) ((Bl.rep (⟨#[99, 104, 97, 114, 97, 99, 116, 101, 114, 95, 99, 111, 100, 101]⟩)).1) ((Bl.rep (⟨#[99, 104, 97, 114, 97, 99, 116, 101, 114, 95, 99, 111, 100, 101]⟩)).2))) (step_rRep (g := 990) (by kernel_rfl) (Opd.const _) (Opd.of_base 990 rfl) rfl) (by kernel_rfl) (by decide) h ?_
  clear h
  intro a w h
  refine env_one (i := 1) (d := 2) (k := .val (.int .i64 0)) (step_assign (by kernel_rfl) (Opd.const _) rfl) (by kernel_rfl) (by decide) h ?_
  clear h
  intro a w h
  refine env_store (i := 2) (x := 3) (y := 23) (r := r) [(2, .val (.int .i64 0)), (990, .sat (gP nb (some r))), (4, .val (.bool false)), (5, .val (.int .i64 (Bl.int p0 l0).1)), (23, .sat (nT nb (some r) ((Bl.rep (⟨#[99, 104, 97, 114, 97, 99, 116, 101, 114, 95, 99, 111, 100, 101]⟩)).1) ((Bl.rep (⟨#[99, 104, 97, 114, 97, 99, 116, 101, 114, 95, 99, 111, 100, 101]⟩)).2)))] (by kernel_rfl) rfl rfl hr (stays_cons 2 rfl (away_val _ _) (stays_cons 990 rfl (away_gP _ _ _) (stays_cons 4 rfl (away_val _ _) (stays_cons 5 rfl (away_val _ _) (stays_cons 23 rfl (away_nT _ _ _ _) (stays_nil _ _)))))) h ?_
  clear h
  intro a w h
  refine env_one (i := 3) (d := 4) (k := .val (.bool false)) (step_assign (by kernel_rfl) (Opd.const _) rfl) (by kernel_rfl) (by decide) h ?_
  clear h
  intro a w h
  exact hQ a w (h.keep [2, 990, 4, 5, 3])
theorem rCode4c_region {Q : Exit → Act → World → Prop} (p0 : Pay) (l0 : Fo) (nb r : Nat) (h1 : ¬ (Bl.int p0 l0).1 < 0) (h2 : 255 < (Bl.int p0 l0).1) {w0 : World} {a : Act} {w : World} (hr : w0.heap.size ≤ r) (h : Hold 26 [(2, .val (.int .i64 0)), (3, .sat (rC nb r zp .nil)), (990, .sat (gP nb (some r))), (4, .val (.bool false)), (5, .val (.int .i64 (Bl.int p0 l0).1))] w0 a w)
    (hQ : ∀ a' w', Hold 26 [(2, .val (.int .i64 0)), (3, .sat (rC nb r zp .nil)), (990, .sat (gP nb (some r))), (4, .val (.bool false)), (5, .val (.int .i64 (Bl.int p0 l0).1)), (22, .val (.bool true))] w0 a' w' → Q .normal a' w') : (Code.region 4 rCode4Ops false).wp Try.prog Q a w := by
  refine region_seq (w0 := w) 6 (by kernel_rfl) ?_
  rw [show List.range 6 = [0, 1, 2, 3, 4, 5] from rfl]
  refine env_one (i := 0) (d := 17) (k := .val (.int .i64 (Bl.int p0 l0).1)) (step_move (by kernel_rfl) (Opd.of_base 5 rfl) rfl) (by kernel_rfl) (by decide) h ?_
  clear h
  intro a w h
  refine env_one (i := 1) (d := 18) (k := .val (.bool false)) (step_lt_int64 (m := (Bl.int p0 l0).1) (n := 0) (by kernel_rfl) (Opd.of_base 17 rfl) (Opd.const _) (decide_eq_false h1) rfl) (by kernel_rfl) (by decide) h ?_
  clear h
  intro a w h
  refine env_one (i := 2) (d := 19) (k := .val (.bool false)) (step_move (by kernel_rfl) (Opd.of_base 18 rfl) rfl) (by kernel_rfl) (by decide) h ?_
  clear h
  intro a w h
  refine env_guard (i := 3) (d := 20) (g := 2) (dg := 19) (b := false) (k := .val (.int .i64 (Bl.int p0 l0).1)) (step_move (by kernel_rfl) (Opd.of_base 5 rfl) rfl) (by kernel_rfl) (by decide) (by kernel_rfl) (by decide) rfl h ?_
  clear h
  intro a w h
  refine env_guard (i := 4) (d := 21) (g := 2) (dg := 19) (b := false) (k := .val (.bool true)) (step_gt_int64 (m := (Bl.int p0 l0).1) (n := 255) (by kernel_rfl) (Opd.of_base 20 rfl) (Opd.const _) (decide_eq_true h2) rfl) (by kernel_rfl) (by decide) (by kernel_rfl) (by decide) rfl h ?_
  clear h
  intro a w h
  refine env_one (i := 5) (d := 22) (k := .val (.bool true)) (step_pick_no (x := .const (.bool true)) (by kernel_rfl) (Opd.of_base 19 rfl) (Opd.of_base 21 rfl) rfl) (by kernel_rfl) (by decide) h ?_
  clear h
  intro a w h
  exact hQ a w (h.keep [2, 3, 990, 4, 5, 22])
theorem rCode2b_region {Q : Exit → Act → World → Prop} (p0 : Pay) (l0 : Fo) (nb r : Nat)  {w0 : World} {a : Act} {w : World} (hr : w0.heap.size ≤ r) (h : Hold 26 [(2, .val (.int .i64 0)), (3, .sat (rC nb r zp .nil)), (990, .sat (gP nb (some r))), (4, .val (.bool false)), (6, .sat (nP nb (some r) (((Bl.int p0 l0).2.1).1) (((Bl.int p0 l0).2.1).2))), (5, .val (.int .i64 (Bl.int p0 l0).1)), (7, .val (.bool false))] w0 a w)
    (hQ : ∀ a' w', Hold 26 [(2, .val (.int .i64 0)), (3, .sat (rC nb r zp .nil)), (990, .sat (gP nb (some r))), (4, .val (.bool false)), (6, .sat (nP nb (some r) (((Bl.int p0 l0).2.1).1) (((Bl.int p0 l0).2.1).2))), (5, .val (.int .i64 (Bl.int p0 l0).1)), (15, .val (.bool true))] w0 a' w' → Q .normal a' w') : (Code.region 2 rCode2Ops false).wp Try.prog Q a w := by
  refine region_seq (w0 := w) 2 (by kernel_rfl) ?_
  rw [show List.range 2 = [0, 1] from rfl]
  refine env_one (i := 0) (d := 14) (k := .val (.bool false)) (step_move (by kernel_rfl) (Opd.of_base 7 rfl) rfl) (by kernel_rfl) (by decide) h ?_
  clear h
  intro a w h
  refine env_one (i := 1) (d := 15) (k := .val (.bool true)) (step_not (by kernel_rfl) (Opd.of_base 14 rfl) rfl) (by kernel_rfl) (by decide) h ?_
  clear h
  intro a w h
  exact hQ a w (h.keep [2, 3, 990, 4, 6, 5, 15])
def rCode3aEs (p0 : Pay) (l0 : Fo) (nb r : Nat) : List Kd := [
  .sat (nT nb (some r) (((Bl.int p0 l0).2.1).1) (((Bl.int p0 l0).2.1).2)),
  .val (.int .i64 0)]
def rCode3aDs : List Nat := [16, 2]
def rCode3aEnv (p0 : Pay) (l0 : Fo) (nb r : Nat) : Env := [(3, .sat (rC nb r zp .nil)), (990, .sat (gP nb (some r))), (4, .val (.bool false)), (6, .sat (nP nb (some r) (((Bl.int p0 l0).2.1).1) (((Bl.int p0 l0).2.1).2))), (5, .val (.int .i64 (Bl.int p0 l0).1))]
theorem rCode3a_0 {Q : Exit → Act → World → Prop} (p0 : Pay) (l0 : Fo) (nb r : Nat)  : RStep (strip rCode3Ops) Q (fun i => ((rCode3aEs p0 l0 nb r)[i]?).getD .any) (fun i => (rCode3aDs[i]?).getD (1000 + i)) (look (rCode3aEnv p0 l0 nb r)) 26 0 := fun _ => step_nload (by kernel_rfl) (Opd.of_base 6 rfl) rfl
theorem rCode3a_1 {Q : Exit → Act → World → Prop} (p0 : Pay) (l0 : Fo) (nb r : Nat)  : RStep (strip rCode3Ops) Q (fun i => ((rCode3aEs p0 l0 nb r)[i]?).getD .any) (fun i => (rCode3aDs[i]?).getD (1000 + i)) (look (rCode3aEnv p0 l0 nb r)) 26 1 := fun _ => step_assign (by kernel_rfl) (Opd.const _) rfl
theorem rCode3a_region {Q : Exit → Act → World → Prop} (p0 : Pay) (l0 : Fo) (nb r : Nat)  {w0 : World} {a : Act} {w : World} (hr : w0.heap.size ≤ r) (h : Hold 26 [(3, .sat (rC nb r zp .nil)), (990, .sat (gP nb (some r))), (4, .val (.bool false)), (6, .sat (nP nb (some r) (((Bl.int p0 l0).2.1).1) (((Bl.int p0 l0).2.1).2))), (5, .val (.int .i64 (Bl.int p0 l0).1))] w0 a w)
    (hQ : ∀ a' w', Hold 26 [(990, .sat (gP nb (some r))), (4, .val (.bool false)), (5, .val (.int .i64 (Bl.int p0 l0).1)), (2, .val (.int .i64 0)), (3, .sat (rC nb r (((Bl.int p0 l0).2.1).1) (((Bl.int p0 l0).2.1).2)))] w0 a' w' → Q .normal a' w') : (Code.region 3 rCode3Ops true).wp Try.prog Q a w := by
  have hall : ∀ i, i < 0 → RStep (strip rCode3Ops) Q (fun i => ((rCode3aEs p0 l0 nb r)[i]?).getD .any) (fun i => (rCode3aDs[i]?).getD (1000 + i)) (look (rCode3aEnv p0 l0 nb r)) 26 i := fun i hi => absurd hi (by omega)
  have hall := below_succ hall (rCode3a_0 p0 l0 nb r )
  have hall := below_succ hall (rCode3a_1 p0 l0 nb r )
  refine env_then (m := 2) (n := 4) rCode3aDs (rCode3aEs p0 l0 nb r) rfl (by kernel_rfl) (by decide) (by kernel_rfl) (of_decide_eq_true (by kernel_rfl)) (by kernel_rfl) (by kernel_rfl) (fun i_ hi_ => hall i_ hi_) h fun a w h => ?_
  clear hall
  have h := h.keep [3, 990, 4, 6, 5, 16, 2]
  show wpOps Try.prog _ Q [2, 3] a w
  refine env_store (i := 2) (x := 3) (y := 16) (r := r) [(990, .sat (gP nb (some r))), (4, .val (.bool false)), (6, .sat (nP nb (some r) (((Bl.int p0 l0).2.1).1) (((Bl.int p0 l0).2.1).2))), (5, .val (.int .i64 (Bl.int p0 l0).1)), (16, .sat (nT nb (some r) (((Bl.int p0 l0).2.1).1) (((Bl.int p0 l0).2.1).2))), (2, .val (.int .i64 0))] (by kernel_rfl) rfl rfl hr (stays_cons 990 rfl (away_gP _ _ _) (stays_cons 4 rfl (away_val _ _) (stays_cons 6 rfl (away_nP _ _ _ _) (stays_cons 5 rfl (away_val _ _) (stays_cons 16 rfl (away_nT _ _ _ _) (stays_cons 2 rfl (away_val _ _) (stays_nil _ _))))))) h ?_
  clear h
  intro a w h
  refine env_one (i := 3) (d := 4) (k := .val (.bool false)) (step_assign (by kernel_rfl) (Opd.const _) rfl) (by kernel_rfl) (by decide) h ?_
  clear h
  intro a w h
  exact hQ a w (h.keep [990, 4, 5, 2, 3])
set_option maxHeartbeats 1000000 in
theorem rCode_any (p0 : Pay) (l0 : Fo) (A0 : Option Addr) (c0 : Nat) (B : Nat) (w : World) (hA0 : ArgsB w B A0 (Tm.len l0) l0) (hB : B ≤ w.heap.size)  : Calls Try.prog 48 #[tv p0 A0 (Tm.len l0) c0] w (MkXB w.heap.size (.int .i64 (Bl.code p0 l0).1) ((Bl.code p0 l0).2.1).1 ((Bl.code p0 l0).2.1).2 ((Bl.code p0 l0).2.2) w) := by
  refine calls_of_wp Try.func48 rCode_body ?_
  obtain ⟨v0, hv0⟩ : ∃ v : Value, v = tv p0 A0 (Tm.len l0) c0 := ⟨_, rfl⟩
  rw [← hv0]
  have hk0 : (Kd.term p0 l0).R v0 w := by rw [hv0]; exact ⟨A0, c0, rfl, hA0.up hB⟩
  have hsN : (#[v0] ++ Array.replicate (Try.f48.ntmps - #[v0].size) undef : Array Value).size = 26 := by kernel_rfl
  have gs0 : (#[v0] ++ Array.replicate (Try.f48.ntmps - #[v0].size) undef : Array Value).getD 0 undef = v0 := by kernel_rfl
  generalize (#[v0] ++ Array.replicate (Try.f48.ntmps - #[v0].size) undef : Array Value) = tm at hsN gs0 ⊢
  obtain ⟨a, ha0⟩ : ∃ a : Act, a = ⟨tm, []⟩ := ⟨_, rfl⟩
  have h : Hold 26 [(0, .term p0 l0)] w ⟨tm, []⟩ w := ⟨hsN, rfl, Below.refl _ _, (slots_cons 0 (by rw [gs0]; exact hk0) slots_nil)⟩
  obtain ⟨nb, hnb⟩ : ∃ nb, nb = w.heap.size := ⟨_, rfl⟩
  have hn : nb ≤ w.heap.size := by omega
  refine wp_seq ?_
  refine rCode0a_region p0 l0 nb  hn h ?_
  intro r a w1 hr h
  show Code.wp _ _ _ a w1
  refine wp_seq ?_
  refine rCode1a_region p0 l0 nb r  hr h ?_
  intro a w1 h
  show Code.wp _ _ _ a w1
  refine wp_seq ?_
  refine wp_seq ?_
  rcases Bool.eq_false_or_eq_true ((Bl.int p0 l0).2.2) with hc | hc
  · rw [hc] at h
    refine rCode2a_region p0 l0 nb r  hr h ?_
    intro a w1 h
    show Code.wp _ _ _ a w1
    refine env_cond (b := false) rfl h ?_
    refine wp_skip ?_
    have h := h.keep [2, 3, 990, 4, 5]
    show Code.wp _ _ _ a w1
    refine wp_seq ?_
    refine wp_seq ?_
    by_cases h1 : (Bl.int p0 l0).1 < 0
    rotate_left
    by_cases h2 : 255 < (Bl.int p0 l0).1
    rotate_left
    · refine rCode4a_region p0 l0 nb r h1 h2 hr h ?_
      intro a w1 h
      show Code.wp _ _ _ a w1
      refine env_cond (b := false) rfl h ?_
      refine wp_skip ?_
      have h := h.keep [2, 3, 990, 4, 5]
      show Code.wp _ _ _ a w1
      refine wp_seq ?_
      refine rCode6a_region p0 l0 nb r  hr h ?_
      intro a w1 h
      show Code.wp _ _ _ a w1
      have ev : Bl.code p0 l0 = ((Bl.int p0 l0).1, ((zp, .nil), true)) := by simp [Bl.code, hc, h1, h2]
      rw [ev]
      refine wp_ret ?_
      (try simp only [then_ret, block_ret])
      exact law_xcb rfl (h.get 2 rfl) (h.get 4 rfl) (h.get 3 rfl) h.defers fun A c ha => ⟨A, c, rfl, ha.mono fun b hb => ⟨by have := hb.1; omega, hb.2.1⟩, h.world⟩
    · refine rCode4b_region p0 l0 nb r h1 hr h ?_
      intro a w1 h
      show Code.wp _ _ _ a w1
      refine env_cond (b := true) rfl h ?_
      have h := h.keep [2, 3, 990, 4, 5]
      show Code.wp _ _ _ a w1
      refine wp_seq ?_
      refine rCode5a_region p0 l0 nb r  hr h ?_
      intro a w1 h
      show Code.wp _ _ _ a w1
      have ev : Bl.code p0 l0 = (0, (((Bl.rep (⟨#[99, 104, 97, 114, 97, 99, 116, 101, 114, 95, 99, 111, 100, 101]⟩)).1, (Bl.rep (⟨#[99, 104, 97, 114, 97, 99, 116, 101, 114, 95, 99, 111, 100, 101]⟩)).2), false)) := by simp [Bl.code, hc, h1]
      rw [ev]
      refine wp_ret ?_
      (try simp only [then_ret, block_ret])
      exact law_xcb rfl (h.get 2 rfl) (h.get 4 rfl) (h.get 3 rfl) h.defers fun A c ha => ⟨A, c, rfl, ha.mono fun b hb => ⟨by have := hb.1; omega, hb.2.1⟩, h.world⟩
    · refine rCode4c_region p0 l0 nb r h1 h2 hr h ?_
      intro a w1 h
      show Code.wp _ _ _ a w1
      refine env_cond (b := true) rfl h ?_
      have h := h.keep [2, 3, 990, 4, 5]
      show Code.wp _ _ _ a w1
      refine wp_seq ?_
      refine rCode5a_region p0 l0 nb r  hr h ?_
      intro a w1 h
      show Code.wp _ _ _ a w1
      have ev : Bl.code p0 l0 = (0, (((Bl.rep (⟨#[99, 104, 97, 114, 97, 99, 116, 101, 114, 95, 99, 111, 100, 101]⟩)).1, (Bl.rep (⟨#[99, 104, 97, 114, 97, 99, 116, 101, 114, 95, 99, 111, 100, 101]⟩)).2), false)) := by simp [Bl.code, hc, h1, h2]
      rw [ev]
      refine wp_ret ?_
      (try simp only [then_ret, block_ret])
      exact law_xcb rfl (h.get 2 rfl) (h.get 4 rfl) (h.get 3 rfl) h.defers fun A c ha => ⟨A, c, rfl, ha.mono fun b hb => ⟨by have := hb.1; omega, hb.2.1⟩, h.world⟩
  · rw [hc] at h
    refine rCode2b_region p0 l0 nb r  hr h ?_
    intro a w1 h
    show Code.wp _ _ _ a w1
    refine env_cond (b := true) rfl h ?_
    have h := h.keep [2, 3, 990, 4, 6, 5]
    show Code.wp _ _ _ a w1
    refine wp_seq ?_
    have h := h.keep [3, 990, 4, 6, 5]
    refine rCode3a_region p0 l0 nb r  hr h ?_
    intro a w1 h
    show Code.wp _ _ _ a w1
    have ev : Bl.code p0 l0 = (0, ((((Bl.int p0 l0).2.1).1, ((Bl.int p0 l0).2.1).2), false)) := by simp [Bl.code, hc]
    rw [ev]
    refine wp_ret ?_
    (try simp only [then_ret, block_ret])
    exact law_xcb rfl (h.get 2 rfl) (h.get 4 rfl) (h.get 3 rfl) h.defers fun A c ha => ⟨A, c, rfl, ha.mono fun b hb => ⟨by have := hb.1; omega, hb.2.1⟩, h.world⟩
section
variable {ops : Array Oper} {Q : Exit → Act → World → Prop} {E : Nat → Kd} {D : Nat → Nat} {base : Nat → Option Kd} {N : Nat}
theorem step_rCode {i : Nat} {n g : Nat} {G : Option Nat} {x0 : Operand} {p0 : Pay} {l0 : Fo} (hop : (ops[i]?).map (·.op) = some (.call { callee := .value (.func 48), args := #[x0], argTypes := #[24] })) (h0 : Opd ops E D base N i x0 (.term p0 l0)) (hg : Opd ops E D base N i (.tmp g) (.sat (gP n G))) (hE : E i = .sat (nT3 n G (.int .i64 (Bl.code p0 l0).1) ((Bl.code p0 l0).2.1).1 ((Bl.code p0 l0).2.1).2 ((Bl.code p0 l0).2.2))) : Step Try.prog ops Q E D base N i :=
  step_mkXB hop (fun _ _ => by kernel_rfl) hg (fun a w h => by
    obtain ⟨A0, c0, e0, ha0⟩ := h0 a w h
    rw [show (#[x0] : Array Operand).map a.eval = #[tv p0 A0 (Tm.len l0) c0] by rw [← e0]; simp]
    exact rCode_any p0 l0 A0 c0 w.heap.size w ha0 (Nat.le_refl _)) hE
end
end Go.Proofs.Ytapcnehpechkpaa
