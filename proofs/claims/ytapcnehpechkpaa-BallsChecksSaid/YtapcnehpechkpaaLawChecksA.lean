/-
  Towards BallsChecks: the values of checks that do not pass.
-/
import Derived.Test.YtapcnehpechkpaaChecksM
import Derived.Test.YtapcnehpechkpaaArr6
import Derived.Test.YtapcnehpechkpaaErr1
namespace Go.Proofs.Ytapcnehpechkpaa
set_option linter.unusedVariables false
set_option linter.unusedSimpArgs false
set_option maxRecDepth 100000
open Go.RowKit
theorem nbox_R {n : Nat} {G : Option Nat} (w : World) (p : Pay) (l : Fo) (A : Option Addr) (c : Nat) (ha : ArgsIn (Ns n G w) w A (Tm.len l) l) (hg : n ≤ w.heap.size ∧ ∀ r, G = some r → r < w.heap.size) : (Kd.sat (nP n G p l)).R (.pointer (some ⟨w.heap.size, 0, none⟩)) (w.alloc (.cells #[.int .i64 p.1, .int .i64 p.2.1, .string p.2.2, .slice A (Tm.len l) c] 24)) := by
  have ht := TermAt.new w p A (Tm.len l) c 24
  have hb : Below w.heap.size w (w.alloc (.cells #[.int .i64 p.1, .int .i64 p.2.1, .string p.2.2, .slice A (Tm.len l) c] 24)) := (Below.refl _ _).alloc (Nat.le_refl _) _
  exact ⟨w.heap.size, 0, A, c, rfl, ns_new hg (Nat.le_refl _) (by simp), ht.kind, ht.num, ht.name, ht.args, ha.ns hb⟩
section
variable {ops : Array Oper} {Q : Exit → Act → World → Prop} {N : Nat} {env : Env} {w0 w : World} {a : Act}
theorem env_nbox {n : Nat} {G : Option Nat} {i d s : Nat} {rest : List Nat} {p : Pay} {l : Fo} (hop : (ops[i]?).map (fun o => (o.op, o.dst, o.guard)) = some (.alloc 24, some d, none)) (hN : d < N)
    (hst : (ops[i + 1]?).map (fun o => (o.op, o.dst, o.guard)) = some (.store 24 (.tmp d) (.tmp s), none, none)) (hne : s ≠ d) (hs : look env s = some (.sat (nT n G p l))) (hgp : look env 990 = some (.sat (gP n G))) (st : Hold N env w0 a w)
    (h : ∀ a' w', Hold N ((d, .sat (nP n G p l)) :: env) w0 a' w' → wpOps Try.prog ops Q rest a' w') : wpOps Try.prog ops Q (i :: (i + 1) :: rest) a w := by
  cases ho : ops[i]? with
  | none => rw [ho] at hop; cases hop
  | some o =>
  cases ho2 : ops[i + 1]? with
  | none => rw [ho2] at hst; cases hst
  | some o2 =>
    rw [ho] at hop
    rw [ho2] at hst
    have hop := Option.some.inj hop
    have hst := Option.some.inj hst
    obtain ⟨dst, op, ty, pos, after, guard⟩ := o
    obtain ⟨dst2, op2, ty2, pos2, after2, guard2⟩ := o2
    simp only [Prod.mk.injEq] at hop hst
    obtain ⟨e1, e2, e3⟩ := hst
    obtain ⟨e4, e5, e6⟩ := hop
    subst e1 e2 e3 e4 e5 e6
    obtain ⟨A, c, e, ha⟩ := st.slots _ _ hs
    have hDi : d < a.tmps.size := by rw [st.size]; exact hN
    simp only [wpOps, ho, wanted_free (o := ⟨some d, _, ty, pos, after, none⟩) rfl, if_true]
    refine .inl (wp_alloc_op ?_)
    simp only [wpOps, ho2, wanted_free (o := ⟨none, _, ty2, pos2, after2, none⟩) rfl, if_true]
    have ev1 : (a.put (some d) (.pointer (some ⟨w.heap.size, 0, none⟩))).eval (.tmp d) = .pointer (some ⟨w.heap.size, 0, none⟩) := put_self hDi
    have ev2 : (a.put (some d) (.pointer (some ⟨w.heap.size, 0, none⟩))).eval (.tmp s) = tv p A (Tm.len l) c := (put_other hne).trans e
    refine .inl (wp_store_op p A (Tm.len l) c ev1 ev2 ?_)
    have hb : Below w.heap.size w (w.alloc (.cells #[.int .i64 p.1, .int .i64 p.2.1, .string p.2.2, .slice A (Tm.len l) c] 24)) := (Below.refl _ _).alloc (Nat.le_refl _) _
    exact h _ _ (st.put (k := .sat (nP n G p l)) hN (nbox_R w p l A c ha (st.slots _ _ hgp)) hb)
theorem env_nbox3 {n : Nat} {G : Option Nat} {i d s e x : Nat} {k : Kd} {rest : List Nat} {p : Pay} {l : Fo} (hop : (ops[i]?).map (fun o => (o.op, o.dst, o.guard)) = some (.alloc 24, some d, none)) (hN : d < N)
    (hop2 : (ops[i + 1]?).map (fun o => (o.op, o.dst, o.guard)) = some (.assign (.tmp x), some e, none)) (heN : e < N) (hx : look env x = some k) (hxd : x ≠ d) (hed : d ≠ e)
    (hst : (ops[i + 2]?).map (fun o => (o.op, o.dst, o.guard)) = some (.store 24 (.tmp d) (.tmp s), none, none)) (hne : s ≠ d) (hse : s ≠ e) (hs : look env s = some (.sat (nT n G p l))) (hgp : look env 990 = some (.sat (gP n G))) (st : Hold N env w0 a w)
    (h : ∀ a' w', Hold N ((e, k) :: (d, .sat (nP n G p l)) :: env) w0 a' w' → wpOps Try.prog ops Q rest a' w') : wpOps Try.prog ops Q (i :: (i + 1) :: (i + 2) :: rest) a w := by
  cases ho : ops[i]? with
  | none => rw [ho] at hop; cases hop
  | some o =>
  cases hoa : ops[i + 1]? with
  | none => rw [hoa] at hop2; cases hop2
  | some oa =>
  cases ho2 : ops[i + 2]? with
  | none => rw [ho2] at hst; cases hst
  | some o2 =>
    rw [ho] at hop
    rw [hoa] at hop2
    rw [ho2] at hst
    have hop := Option.some.inj hop
    have hop2 := Option.some.inj hop2
    have hst := Option.some.inj hst
    obtain ⟨dst, op, ty, pos, after, guard⟩ := o
    obtain ⟨dsta, opa, tya, posa, aftera, guarda⟩ := oa
    obtain ⟨dst2, op2, ty2, pos2, after2, guard2⟩ := o2
    simp only [Prod.mk.injEq] at hop hop2 hst
    obtain ⟨e1, e2, e3⟩ := hst
    obtain ⟨e4, e5, e6⟩ := hop
    obtain ⟨e7, e8, e9⟩ := hop2
    subst e1 e2 e3 e4 e5 e6 e7 e8 e9
    obtain ⟨A, c, ev, ha⟩ := st.slots _ _ hs
    have hDi : d < a.tmps.size := by rw [st.size]; exact hN
    simp only [wpOps, ho, wanted_free (o := ⟨some d, _, ty, pos, after, none⟩) rfl, if_true]
    refine .inl (wp_alloc_op ?_)
    simp only [wpOps, hoa, wanted_free (o := ⟨some e, _, tya, posa, aftera, none⟩) rfl, if_true]
    refine .inl (wp_assign_op ?_)
    have evm : (a.put (some d) (.pointer (some ⟨w.heap.size, 0, none⟩))).eval (.tmp x) = a.tmps.getD x undef := put_other hxd
    rw [evm]
    simp only [wpOps, ho2, wanted_free (o := ⟨none, _, ty2, pos2, after2, none⟩) rfl, if_true]
    have ev1 : ((a.put (some d) (.pointer (some ⟨w.heap.size, 0, none⟩))).put (some e) (a.tmps.getD x undef)).eval (.tmp d) = .pointer (some ⟨w.heap.size, 0, none⟩) := (put_other hed).trans (put_self hDi)
    have ev2 : ((a.put (some d) (.pointer (some ⟨w.heap.size, 0, none⟩))).put (some e) (a.tmps.getD x undef)).eval (.tmp s) = tv p A (Tm.len l) c := (put_other hse).trans ((put_other hne).trans ev)
    refine .inl (wp_store_op p A (Tm.len l) c ev1 ev2 ?_)
    have hb : Below w.heap.size w (w.alloc (.cells #[.int .i64 p.1, .int .i64 p.2.1, .string p.2.2, .slice A (Tm.len l) c] 24)) := (Below.refl _ _).alloc (Nat.le_refl _) _
    have s1 := st.put (k := .sat (nP n G p l)) hN (nbox_R w p l A c ha (st.slots _ _ hgp)) hb
    exact h _ _ (s1.put (k := k) (v := a.tmps.getD x undef) heN (Kd.keep (st.slots _ _ hx) hb) (Below.refl _ _))

end
section
variable {ops : Array Oper} {Q : Exit → Act → World → Prop} {N : Nat} {env : Env} {w0 w : World} {a : Act}
theorem env_nbox5 {n : Nat} {G : Option Nat} {i d s e x e2 x2 : Nat} {k k2 : Kd} {rest : List Nat} {p : Pay} {l : Fo} (hop : (ops[i]?).map (fun o => (o.op, o.dst, o.guard)) = some (.alloc 24, some d, none)) (hN : d < N)
    (hop2 : (ops[i + 1]?).map (fun o => (o.op, o.dst, o.guard)) = some (.assign (.tmp x), some e, none)) (heN : e < N) (hx : look env x = some k) (hxd : x ≠ d) (hed : d ≠ e)
    (hop3 : (ops[i + 2]?).map (fun o => (o.op, o.dst, o.guard)) = some (.assign (.tmp x2), some e2, none)) (heN2 : e2 < N) (hx2 : look env x2 = some k2) (hxd2 : x2 ≠ d) (hxe2 : x2 ≠ e) (hed2 : d ≠ e2)
    (hst : (ops[i + 3]?).map (fun o => (o.op, o.dst, o.guard)) = some (.store 24 (.tmp d) (.tmp s), none, none)) (hne : s ≠ d) (hse : s ≠ e) (hse2 : s ≠ e2) (hs : look env s = some (.sat (nT n G p l))) (hgp : look env 990 = some (.sat (gP n G))) (st : Hold N env w0 a w)
    (h : ∀ a' w', Hold N ((e2, k2) :: (e, k) :: (d, .sat (nP n G p l)) :: env) w0 a' w' → wpOps Try.prog ops Q rest a' w') : wpOps Try.prog ops Q (i :: (i + 1) :: (i + 2) :: (i + 3) :: rest) a w := by
  cases ho : ops[i]? with
  | none => rw [ho] at hop; cases hop
  | some o =>
  cases hoa : ops[i + 1]? with
  | none => rw [hoa] at hop2; cases hop2
  | some oa =>
  cases hob : ops[i + 2]? with
  | none => rw [hob] at hop3; cases hop3
  | some ob =>
  cases ho2 : ops[i + 3]? with
  | none => rw [ho2] at hst; cases hst
  | some o2 =>
    rw [ho] at hop
    rw [hoa] at hop2
    rw [hob] at hop3
    rw [ho2] at hst
    have hop := Option.some.inj hop
    have hop2 := Option.some.inj hop2
    have hop3 := Option.some.inj hop3
    have hst := Option.some.inj hst
    obtain ⟨dst, op, ty, pos, after, guard⟩ := o
    obtain ⟨dsta, opa, tya, posa, aftera, guarda⟩ := oa
    obtain ⟨dstb, opb, tyb, posb, afterb, guardb⟩ := ob
    obtain ⟨dst2, op2, ty2, pos2, after2, guard2⟩ := o2
    simp only [Prod.mk.injEq] at hop hop2 hop3 hst
    obtain ⟨e1, e2', e3⟩ := hst
    obtain ⟨e4, e5, e6⟩ := hop
    obtain ⟨e7, e8, e9⟩ := hop2
    obtain ⟨e10, e11, e12⟩ := hop3
    subst e1 e2' e3 e4 e5 e6 e7 e8 e9 e10 e11 e12
    obtain ⟨A, c, ev, ha⟩ := st.slots _ _ hs
    have hDi : d < a.tmps.size := by rw [st.size]; exact hN
    simp only [wpOps, ho, wanted_free (o := ⟨some d, _, ty, pos, after, none⟩) rfl, if_true]
    refine .inl (wp_alloc_op ?_)
    simp only [wpOps, hoa, wanted_free (o := ⟨some e, _, tya, posa, aftera, none⟩) rfl, if_true]
    refine .inl (wp_assign_op ?_)
    have evm : (a.put (some d) (.pointer (some ⟨w.heap.size, 0, none⟩))).eval (.tmp x) = a.tmps.getD x undef := put_other hxd
    rw [evm]
    simp only [wpOps, hob, wanted_free (o := ⟨some e2, _, tyb, posb, afterb, none⟩) rfl, if_true]
    refine .inl (wp_assign_op ?_)
    have evm2 : ((a.put (some d) (.pointer (some ⟨w.heap.size, 0, none⟩))).put (some e) (a.tmps.getD x undef)).eval (.tmp x2) = a.tmps.getD x2 undef := (put_other hxe2).trans (put_other hxd2)
    rw [evm2]
    simp only [wpOps, ho2, wanted_free (o := ⟨none, _, ty2, pos2, after2, none⟩) rfl, if_true]
    have ev1 : (((a.put (some d) (.pointer (some ⟨w.heap.size, 0, none⟩))).put (some e) (a.tmps.getD x undef)).put (some e2) (a.tmps.getD x2 undef)).eval (.tmp d) = .pointer (some ⟨w.heap.size, 0, none⟩) := (put_other hed2).trans ((put_other hed).trans (put_self hDi))
    have ev2 : (((a.put (some d) (.pointer (some ⟨w.heap.size, 0, none⟩))).put (some e) (a.tmps.getD x undef)).put (some e2) (a.tmps.getD x2 undef)).eval (.tmp s) = tv p A (Tm.len l) c := (put_other hse2).trans ((put_other hse).trans ((put_other hne).trans ev))
    refine .inl (wp_store_op p A (Tm.len l) c ev1 ev2 ?_)
    have hb : Below w.heap.size w (w.alloc (.cells #[.int .i64 p.1, .int .i64 p.2.1, .string p.2.2, .slice A (Tm.len l) c] 24)) := (Below.refl _ _).alloc (Nat.le_refl _) _
    have s1 := st.put (k := .sat (nP n G p l)) hN (nbox_R w p l A c ha (st.slots _ _ hgp)) hb
    have s2 := s1.put (k := k) (v := a.tmps.getD x undef) heN (Kd.keep (st.slots _ _ hx) hb) (Below.refl _ _)
    exact h _ _ (s2.put (k := k2) (v := a.tmps.getD x2 undef) heN2 (Kd.keep (st.slots _ _ hx2) hb) (Below.refl _ _))
end
noncomputable def lChecks0Ops : Array Oper := ((Try.f8.body).bind (findReg 0)).getD #[]
noncomputable def lChecks1Ops : Array Oper := ((Try.f8.body).bind (findReg 1)).getD #[]
noncomputable def lChecks2Ops : Array Oper := ((Try.f8.body).bind (findReg 2)).getD #[]
noncomputable def lChecks3Ops : Array Oper := ((Try.f8.body).bind (findReg 3)).getD #[]
noncomputable def lChecks4Ops : Array Oper := ((Try.f8.body).bind (findReg 4)).getD #[]
noncomputable def lChecks5Ops : Array Oper := ((Try.f8.body).bind (findReg 5)).getD #[]
noncomputable def lChecks6Ops : Array Oper := ((Try.f8.body).bind (findReg 6)).getD #[]
noncomputable def lChecks7Ops : Array Oper := ((Try.f8.body).bind (findReg 7)).getD #[]
noncomputable def lChecks8Ops : Array Oper := ((Try.f8.body).bind (findReg 8)).getD #[]
noncomputable def lChecks9Ops : Array Oper := ((Try.f8.body).bind (findReg 9)).getD #[]
noncomputable def lChecks10Ops : Array Oper := ((Try.f8.body).bind (findReg 10)).getD #[]
noncomputable def lChecks11Ops : Array Oper := ((Try.f8.body).bind (findReg 11)).getD #[]
noncomputable def lChecks12Ops : Array Oper := ((Try.f8.body).bind (findReg 12)).getD #[]
noncomputable def lChecks13Ops : Array Oper := ((Try.f8.body).bind (findReg 13)).getD #[]
noncomputable def lChecks14Ops : Array Oper := ((Try.f8.body).bind (findReg 14)).getD #[]
noncomputable def lChecks15Ops : Array Oper := ((Try.f8.body).bind (findReg 15)).getD #[]
noncomputable def lChecks16Ops : Array Oper := ((Try.f8.body).bind (findReg 16)).getD #[]
noncomputable def lChecks17Ops : Array Oper := ((Try.f8.body).bind (findReg 17)).getD #[]
noncomputable def lChecks18Ops : Array Oper := ((Try.f8.body).bind (findReg 18)).getD #[]
noncomputable def lChecks19Ops : Array Oper := ((Try.f8.body).bind (findReg 19)).getD #[]
noncomputable def lChecks20Ops : Array Oper := ((Try.f8.body).bind (findReg 20)).getD #[]
noncomputable def lChecks21Ops : Array Oper := ((Try.f8.body).bind (findReg 21)).getD #[]
noncomputable def lChecks22Ops : Array Oper := ((Try.f8.body).bind (findReg 22)).getD #[]
noncomputable def lChecks23Ops : Array Oper := ((Try.f8.body).bind (findReg 23)).getD #[]
noncomputable def lChecks24Ops : Array Oper := ((Try.f8.body).bind (findReg 24)).getD #[]
noncomputable def lChecks25Ops : Array Oper := ((Try.f8.body).bind (findReg 25)).getD #[]
noncomputable def lChecks26Ops : Array Oper := ((Try.f8.body).bind (findReg 26)).getD #[]
noncomputable def lChecks27Ops : Array Oper := ((Try.f8.body).bind (findReg 27)).getD #[]
noncomputable def lChecks28Ops : Array Oper := ((Try.f8.body).bind (findReg 28)).getD #[]
noncomputable def lChecks29Ops : Array Oper := ((Try.f8.body).bind (findReg 29)).getD #[]
noncomputable def lChecks30Ops : Array Oper := ((Try.f8.body).bind (findReg 30)).getD #[]
noncomputable def lChecks31Ops : Array Oper := ((Try.f8.body).bind (findReg 31)).getD #[]
noncomputable def lChecks32Ops : Array Oper := ((Try.f8.body).bind (findReg 32)).getD #[]
noncomputable def lChecks33Ops : Array Oper := ((Try.f8.body).bind (findReg 33)).getD #[]
noncomputable def lChecks34Ops : Array Oper := ((Try.f8.body).bind (findReg 34)).getD #[]
noncomputable def lChecks35Ops : Array Oper := ((Try.f8.body).bind (findReg 35)).getD #[]
noncomputable def lChecks36Ops : Array Oper := ((Try.f8.body).bind (findReg 36)).getD #[]
theorem lChecks_body : Try.f8.body = some (.seq (.region 0 lChecks0Ops false) (.seq (.region 1 lChecks1Ops false) (.seq (.region 2 lChecks2Ops false) (.seq (.region 3 lChecks3Ops false) (.seq (.region 4 lChecks4Ops false) (.seq (.region 5 lChecks5Ops false) (.seq (.region 6 lChecks6Ops false) (.seq (.region 7 lChecks7Ops false) (.seq (.region 8 lChecks8Ops false) (.seq (.region 9 lChecks9Ops false) (.seq (.region 10 lChecks10Ops false) (.seq (.region 11 lChecks11Ops false) (.seq (.region 12 lChecks12Ops false) (.seq (.region 13 lChecks13Ops false) (.seq (.seq (.region 14 lChecks14Ops false) (.block 0 (.loop (.seq (.seq (.region 15 lChecks15Ops false) (.cond (.tmp 102) .skip (.exit 0))) (.seq (.block 1 (.seq (.region 17 lChecks17Ops false) (.seq (.region 18 lChecks18Ops false) (.cond (.tmp 141) (.seq (.region 19 lChecks19Ops false) .ret) .skip)))) (.region 16 lChecks16Ops false)))))) (.seq (.seq (.region 20 lChecks20Ops false) (.cond (.tmp 188) (.seq (.region 21 lChecks21Ops false) .ret) .skip)) (.seq (.seq (.region 22 lChecks22Ops false) (.cond (.tmp 190) (.seq (.region 23 lChecks23Ops false) .ret) .skip)) (.seq (.region 24 lChecks24Ops false) (.seq (.seq (.region 25 lChecks25Ops false) (.cond (.tmp 196) (.seq (.seq (.region 26 lChecks26Ops false) (.block 2 (.loop (.seq (.seq (.region 27 lChecks27Ops false) (.cond (.tmp 198) .skip (.exit 2))) (.seq (.block 3 (.seq (.region 29 lChecks29Ops true) (.cond (.tmp 206) (.seq (.region 30 lChecks30Ops false) .ret) .skip))) (.region 28 lChecks28Ops false)))))) (.seq (.region 31 lChecks31Ops false) .ret)) .skip)) (.seq (.seq (.region 32 lChecks32Ops false) (.cond (.tmp 233) (.seq (.region 33 lChecks33Ops false) .ret) .skip)) (.seq (.seq (.region 34 lChecks34Ops false) (.cond (.tmp 273) (.seq (.region 35 lChecks35Ops false) .ret) .skip)) (.seq (.region 36 lChecks36Ops false) .ret)))))))))))))))))))))) := by kernel_rfl
theorem lChecks20a_region {Q : Exit → Act → World → Prop} (p0 : Pay) (l0 : Fo) (s : Nat) (s2 : Nat) (b0 : (Bl.atom p0 l0).2.2 = false) (b1 : (Bl.int p0 l0).2.2 = false) (b4 : (Bl.list p0 l0).2.2 = false) (b5 : (Bl.char p0 l0).2.2 = false) (b6 : (Bl.code p0 l0).2.2 = false) (b7 : (Bl.ind p0 l0).2.2.2 = false) {w0 : World} {a : Act} {w : World} (h : Hold 275 [(1, .sat (oP s p0 l0)), (2, .val (.bool false)), (3, .sat (aB (s2 + 1) (Bl.bs p0 l0))), (990, .sat (gP (s2 + 1) none)), (5, .val (.string (Bl.atom p0 l0).1)), (7, .val (.bool ((Bl.atom p0 l0).2.2))), (8, .val (.int .i64 (Bl.int p0 l0).1)), (10, .val (.bool ((Bl.int p0 l0).2.2))), (12, .val (.bool ((Bl.callable p0 l0).2))), (14, .val (.bool ((Bl.atomic p0 l0).2))), (15, .sat (nR (s2 + 1) none ((Bl.list p0 l0).1))), (17, .val (.bool ((Bl.list p0 l0).2.2))), (18, .val (.int .i64 (Bl.char p0 l0).1)), (20, .val (.bool ((Bl.char p0 l0).2.2))), (21, .val (.int .i64 (Bl.code p0 l0).1)), (23, .val (.bool ((Bl.code p0 l0).2.2))), (25, .val (.int .i64 (Bl.ind p0 l0).2.1)), (27, .val (.bool ((Bl.ind p0 l0).2.2.2))), (28, .val (.bool (Tm.validB p0 l0)))] w0 a w)
    (hQ : ∀ a' w', Hold 275 [(1, .sat (oP s p0 l0)), (2, .val (.bool false)), (3, .sat (aB (s2 + 1) (Bl.bs p0 l0))), (990, .sat (gP (s2 + 1) none)), (5, .val (.string (Bl.atom p0 l0).1)), (7, .val (.bool ((Bl.atom p0 l0).2.2))), (8, .val (.int .i64 (Bl.int p0 l0).1)), (10, .val (.bool ((Bl.int p0 l0).2.2))), (12, .val (.bool ((Bl.callable p0 l0).2))), (14, .val (.bool ((Bl.atomic p0 l0).2))), (18, .val (.int .i64 (Bl.char p0 l0).1)), (20, .val (.bool ((Bl.char p0 l0).2.2))), (21, .val (.int .i64 (Bl.code p0 l0).1)), (23, .val (.bool ((Bl.code p0 l0).2.2))), (28, .val (.bool (Tm.validB p0 l0))), (188, .val (.bool false))] w0 a' w' → Q .normal a' w') : (Code.region 20 lChecks20Ops false).wp Try.prog Q a w := by
  refine region_seq (w0 := w) 47 (by kernel_rfl) ?_
  rw [show List.range 47 = [0, 1, 2, 3, 4, 5, 6, 7, 8, 9, 10, 11, 12, 13, 14, 15, 16, 17, 18, 19, 20, 21, 22, 23, 24, 25, 26, 27, 28, 29, 30, 31, 32, 33, 34, 35, 36, 37, 38, 39, 40, 41, 42, 43, 44, 45, 46] from rfl]
  refine env_one (i := 0) (d := 142) (k := .val (.bool false)) (step_move (by kernel_rfl) (Opd.of_base 7 rfl) (by rw [b0]; rfl)) (by kernel_rfl) (by decide) h ?_
  clear h
  intro a w h
  refine env_one (i := 1) (d := 143) (k := .val (.bool true)) (step_not (by kernel_rfl) (Opd.of_base 142 rfl) rfl) (by kernel_rfl) (by decide) h ?_
  clear h
  intro a w h
  refine env_one (i := 2) (d := 144) (k := .val (.bool true)) (step_move (by kernel_rfl) (Opd.of_base 143 rfl) rfl) (by kernel_rfl) (by decide) h ?_
  clear h
  intro a w h
  refine env_guard (i := 3) (d := 145) (g := 2) (dg := 144) (b := true) (k := .val (.string ⟨#[]⟩)) (step_move (by kernel_rfl) (Opd.of_base 5 rfl) (by rw [Bl.atom_zero b0]; rfl)) (by kernel_rfl) (by decide) (by kernel_rfl) (by decide) rfl h ?_
  clear h
  intro a w h
  refine env_guard (i := 4) (d := 146) (g := 2) (dg := 144) (b := true) (k := .val (.bool false)) (step_ne_str (s := ⟨#[]⟩) (t := ⟨#[]⟩) (by kernel_rfl) (Opd.of_base 145 rfl) (Opd.const _) (by simp) rfl) (by kernel_rfl) (by decide) (by kernel_rfl) (by decide) rfl h ?_
  clear h
  intro a w h
  refine env_one (i := 5) (d := 147) (k := .val (.bool false)) (step_pick_yes (y := .const (.bool false)) (by kernel_rfl) (Opd.of_base 144 rfl) (Opd.of_base 146 rfl) rfl) (by kernel_rfl) (by decide) h ?_
  clear h
  intro a w h
  refine env_one (i := 6) (d := 148) (k := .val (.bool false)) (step_move (by kernel_rfl) (Opd.of_base 147 rfl) rfl) (by kernel_rfl) (by decide) h ?_
  clear h
  intro a w h
  refine env_guard (i := 7) (d := 149) (g := 6) (dg := 148) (b := false) (k := .val (.bool false)) (step_move (by kernel_rfl) (Opd.of_base 10 rfl) (by rw [b1]; rfl)) (by kernel_rfl) (by decide) (by kernel_rfl) (by decide) rfl h ?_
  clear h
  intro a w h
  refine env_guard (i := 8) (d := 150) (g := 6) (dg := 148) (b := false) (k := .val (.bool true)) (step_not (by kernel_rfl) (Opd.of_base 149 rfl) rfl) (by kernel_rfl) (by decide) (by kernel_rfl) (by decide) rfl h ?_
  clear h
  intro a w h
  refine env_guard (i := 9) (d := 151) (g := 6) (dg := 148) (b := false) (k := .val (.bool true)) (step_move (by kernel_rfl) (Opd.of_base 150 rfl) rfl) (by kernel_rfl) (by decide) (by kernel_rfl) (by decide) rfl h ?_
  clear h
  intro a w h
  refine env_guard (i := 10) (d := 152) (g := 9) (dg := 151) (b := true) (k := .val (.int .i64 0)) (step_move (by kernel_rfl) (Opd.of_base 8 rfl) (by rw [Bl.int_zero b1]; rfl)) (by kernel_rfl) (by decide) (by kernel_rfl) (by decide) rfl h ?_
  clear h
  intro a w h
  refine env_guard (i := 11) (d := 153) (g := 9) (dg := 151) (b := true) (k := .val (.bool false)) (step_ne_int64 (m := 0) (n := 0) (by kernel_rfl) (Opd.of_base 152 rfl) (Opd.const _) (by simp) rfl) (by kernel_rfl) (by decide) (by kernel_rfl) (by decide) rfl h ?_
  clear h
  intro a w h
  refine env_guard (i := 12) (d := 154) (g := 6) (dg := 148) (b := false) (k := .val (.bool false)) (step_pick_yes (y := .const (.bool false)) (by kernel_rfl) (Opd.of_base 151 rfl) (Opd.of_base 153 rfl) rfl) (by kernel_rfl) (by decide) (by kernel_rfl) (by decide) rfl h ?_
  clear h
  intro a w h
  refine env_one (i := 13) (d := 155) (k := .val (.bool false)) (step_pick_no (x := .const (.bool true)) (by kernel_rfl) (Opd.of_base 148 rfl) (Opd.of_base 154 rfl) rfl) (by kernel_rfl) (by decide) h ?_
  clear h
  intro a w h
  refine env_one (i := 14) (d := 156) (k := .val (.bool false)) (step_move (by kernel_rfl) (Opd.of_base 155 rfl) rfl) (by kernel_rfl) (by decide) h ?_
  clear h
  intro a w h
  refine env_guard (i := 15) (d := 157) (g := 14) (dg := 156) (b := false) (k := .val (.bool false)) (step_move (by kernel_rfl) (Opd.of_base 17 rfl) (by rw [b4]; rfl)) (by kernel_rfl) (by decide) (by kernel_rfl) (by decide) rfl h ?_
  clear h
  intro a w h
  refine env_guard (i := 16) (d := 158) (g := 14) (dg := 156) (b := false) (k := .val (.bool true)) (step_not (by kernel_rfl) (Opd.of_base 157 rfl) rfl) (by kernel_rfl) (by decide) (by kernel_rfl) (by decide) rfl h ?_
  clear h
  intro a w h
  refine env_guard (i := 17) (d := 159) (g := 14) (dg := 156) (b := false) (k := .val (.bool true)) (step_move (by kernel_rfl) (Opd.of_base 158 rfl) rfl) (by kernel_rfl) (by decide) (by kernel_rfl) (by decide) rfl h ?_
  clear h
  intro a w h
  refine env_guard (i := 18) (d := 160) (g := 17) (dg := 159) (b := true) (k := .sat (nR (s2 + 1) none .nil)) (step_move (by kernel_rfl) (Opd.of_base 15 rfl) (by rw [Bl.list_zero b4]; rfl)) (by kernel_rfl) (by decide) (by kernel_rfl) (by decide) rfl h ?_
  clear h
  intro a w h
  refine env_guard (i := 19) (d := 161) (g := 17) (dg := 159) (b := true) (k := .val (.int .i64 ((Tm.len .nil : Nat) : Int))) (step_len_row (by kernel_rfl) (Opd.ofR (Opd.of_base 160 rfl)) rfl) (by kernel_rfl) (by decide) (by kernel_rfl) (by decide) rfl h ?_
  clear h
  intro a w h
  refine env_guard (i := 20) (d := 162) (g := 17) (dg := 159) (b := true) (k := .val (.bool false)) (step_ne_int (m := ((Tm.len .nil : Nat) : Int)) (n := 0) (by kernel_rfl) (Opd.of_base 161 rfl) (Opd.const _) rfl rfl) (by kernel_rfl) (by decide) (by kernel_rfl) (by decide) rfl h ?_
  clear h
  intro a w h
  refine env_guard (i := 21) (d := 163) (g := 14) (dg := 156) (b := false) (k := .val (.bool false)) (step_pick_yes (y := .const (.bool false)) (by kernel_rfl) (Opd.of_base 159 rfl) (Opd.of_base 162 rfl) rfl) (by kernel_rfl) (by decide) (by kernel_rfl) (by decide) rfl h ?_
  clear h
  intro a w h
  refine env_one (i := 22) (d := 164) (k := .val (.bool false)) (step_pick_no (x := .const (.bool true)) (by kernel_rfl) (Opd.of_base 156 rfl) (Opd.of_base 163 rfl) rfl) (by kernel_rfl) (by decide) h ?_
  clear h
  intro a w h
  refine env_one (i := 23) (d := 165) (k := .val (.bool false)) (step_move (by kernel_rfl) (Opd.of_base 164 rfl) rfl) (by kernel_rfl) (by decide) h ?_
  clear h
  intro a w h
  refine env_guard (i := 24) (d := 166) (g := 23) (dg := 165) (b := false) (k := .val (.bool false)) (step_move (by kernel_rfl) (Opd.of_base 20 rfl) (by rw [b5]; rfl)) (by kernel_rfl) (by decide) (by kernel_rfl) (by decide) rfl h ?_
  clear h
  intro a w h
  refine env_guard (i := 25) (d := 167) (g := 23) (dg := 165) (b := false) (k := .val (.bool true)) (step_not (by kernel_rfl) (Opd.of_base 166 rfl) rfl) (by kernel_rfl) (by decide) (by kernel_rfl) (by decide) rfl h ?_
  clear h
  intro a w h
  refine env_guard (i := 26) (d := 168) (g := 23) (dg := 165) (b := false) (k := .val (.bool true)) (step_move (by kernel_rfl) (Opd.of_base 167 rfl) rfl) (by kernel_rfl) (by decide) (by kernel_rfl) (by decide) rfl h ?_
  clear h
  intro a w h
  refine env_guard (i := 27) (d := 169) (g := 26) (dg := 168) (b := true) (k := .val (.int .i64 0)) (step_move (by kernel_rfl) (Opd.of_base 18 rfl) (by rw [Bl.char_zero b5]; rfl)) (by kernel_rfl) (by decide) (by kernel_rfl) (by decide) rfl h ?_
  clear h
  intro a w h
  refine env_guard (i := 28) (d := 170) (g := 26) (dg := 168) (b := true) (k := .val (.bool false)) (step_ne_int (m := 0) (n := 0) (by kernel_rfl) (Opd.of_base 169 rfl) (Opd.const _) (by simp) rfl) (by kernel_rfl) (by decide) (by kernel_rfl) (by decide) rfl h ?_
  clear h
  intro a w h
  refine env_guard (i := 29) (d := 171) (g := 23) (dg := 165) (b := false) (k := .val (.bool false)) (step_pick_yes (y := .const (.bool false)) (by kernel_rfl) (Opd.of_base 168 rfl) (Opd.of_base 170 rfl) rfl) (by kernel_rfl) (by decide) (by kernel_rfl) (by decide) rfl h ?_
  clear h
  intro a w h
  refine env_one (i := 30) (d := 172) (k := .val (.bool false)) (step_pick_no (x := .const (.bool true)) (by kernel_rfl) (Opd.of_base 165 rfl) (Opd.of_base 171 rfl) rfl) (by kernel_rfl) (by decide) h ?_
  clear h
  intro a w h
  refine env_one (i := 31) (d := 173) (k := .val (.bool false)) (step_move (by kernel_rfl) (Opd.of_base 172 rfl) rfl) (by kernel_rfl) (by decide) h ?_
  clear h
  intro a w h
  refine env_guard (i := 32) (d := 174) (g := 31) (dg := 173) (b := false) (k := .val (.bool false)) (step_move (by kernel_rfl) (Opd.of_base 23 rfl) (by rw [b6]; rfl)) (by kernel_rfl) (by decide) (by kernel_rfl) (by decide) rfl h ?_
  clear h
  intro a w h
  refine env_guard (i := 33) (d := 175) (g := 31) (dg := 173) (b := false) (k := .val (.bool true)) (step_not (by kernel_rfl) (Opd.of_base 174 rfl) rfl) (by kernel_rfl) (by decide) (by kernel_rfl) (by decide) rfl h ?_
  clear h
  intro a w h
  refine env_guard (i := 34) (d := 176) (g := 31) (dg := 173) (b := false) (k := .val (.bool true)) (step_move (by kernel_rfl) (Opd.of_base 175 rfl) rfl) (by kernel_rfl) (by decide) (by kernel_rfl) (by decide) rfl h ?_
  clear h
  intro a w h
  refine env_guard (i := 35) (d := 177) (g := 34) (dg := 176) (b := true) (k := .val (.int .i64 0)) (step_move (by kernel_rfl) (Opd.of_base 21 rfl) (by rw [Bl.code_zero b6]; rfl)) (by kernel_rfl) (by decide) (by kernel_rfl) (by decide) rfl h ?_
  clear h
  intro a w h
  refine env_guard (i := 36) (d := 178) (g := 34) (dg := 176) (b := true) (k := .val (.bool false)) (step_ne_int (m := 0) (n := 0) (by kernel_rfl) (Opd.of_base 177 rfl) (Opd.const _) (by simp) rfl) (by kernel_rfl) (by decide) (by kernel_rfl) (by decide) rfl h ?_
  clear h
  intro a w h
  refine env_guard (i := 37) (d := 179) (g := 31) (dg := 173) (b := false) (k := .val (.bool false)) (step_pick_yes (y := .const (.bool false)) (by kernel_rfl) (Opd.of_base 176 rfl) (Opd.of_base 178 rfl) rfl) (by kernel_rfl) (by decide) (by kernel_rfl) (by decide) rfl h ?_
  clear h
  intro a w h
  refine env_one (i := 38) (d := 180) (k := .val (.bool false)) (step_pick_no (x := .const (.bool true)) (by kernel_rfl) (Opd.of_base 173 rfl) (Opd.of_base 179 rfl) rfl) (by kernel_rfl) (by decide) h ?_
  clear h
  intro a w h
  refine env_one (i := 39) (d := 181) (k := .val (.bool false)) (step_move (by kernel_rfl) (Opd.of_base 180 rfl) rfl) (by kernel_rfl) (by decide) h ?_
  clear h
  intro a w h
  refine env_guard (i := 40) (d := 182) (g := 39) (dg := 181) (b := false) (k := .val (.bool false)) (step_move (by kernel_rfl) (Opd.of_base 27 rfl) (by rw [b7]; rfl)) (by kernel_rfl) (by decide) (by kernel_rfl) (by decide) rfl h ?_
  clear h
  intro a w h
  refine env_guard (i := 41) (d := 183) (g := 39) (dg := 181) (b := false) (k := .val (.bool true)) (step_not (by kernel_rfl) (Opd.of_base 182 rfl) rfl) (by kernel_rfl) (by decide) (by kernel_rfl) (by decide) rfl h ?_
  clear h
  intro a w h
  refine env_guard (i := 42) (d := 184) (g := 39) (dg := 181) (b := false) (k := .val (.bool true)) (step_move (by kernel_rfl) (Opd.of_base 183 rfl) rfl) (by kernel_rfl) (by decide) (by kernel_rfl) (by decide) rfl h ?_
  clear h
  intro a w h
  refine env_guard (i := 43) (d := 185) (g := 42) (dg := 184) (b := true) (k := .val (.int .i64 0)) (step_move (by kernel_rfl) (Opd.of_base 25 rfl) (by rw [Bl.ind_zero b7]; rfl)) (by kernel_rfl) (by decide) (by kernel_rfl) (by decide) rfl h ?_
  clear h
  intro a w h
  refine env_guard (i := 44) (d := 186) (g := 42) (dg := 184) (b := true) (k := .val (.bool false)) (step_ne_int (m := 0) (n := 0) (by kernel_rfl) (Opd.of_base 185 rfl) (Opd.const _) (by simp) rfl) (by kernel_rfl) (by decide) (by kernel_rfl) (by decide) rfl h ?_
  clear h
  intro a w h
  refine env_guard (i := 45) (d := 187) (g := 39) (dg := 181) (b := false) (k := .val (.bool false)) (step_pick_yes (y := .const (.bool false)) (by kernel_rfl) (Opd.of_base 184 rfl) (Opd.of_base 186 rfl) rfl) (by kernel_rfl) (by decide) (by kernel_rfl) (by decide) rfl h ?_
  clear h
  intro a w h
  refine env_one (i := 46) (d := 188) (k := .val (.bool false)) (step_pick_no (x := .const (.bool true)) (by kernel_rfl) (Opd.of_base 181 rfl) (Opd.of_base 187 rfl) rfl) (by kernel_rfl) (by decide) h ?_
  clear h
  intro a w h
  exact hQ a w (h.keep [1, 2, 3, 990, 5, 7, 8, 10, 12, 14, 18, 20, 21, 23, 28, 188])
theorem lChecks20b_region {Q : Exit → Act → World → Prop} (p0 : Pay) (l0 : Fo) (s : Nat) (s2 : Nat) (b0 : (Bl.atom p0 l0).2.2 = false) (b1 : (Bl.int p0 l0).2.2 = false) (b4 : (Bl.list p0 l0).2.2 = false) (b5 : (Bl.char p0 l0).2.2 = false) (b6 : (Bl.code p0 l0).2.2 = false) (b7 : (Bl.ind p0 l0).2.2.2 = true) {w0 : World} {a : Act} {w : World} (h : Hold 275 [(1, .sat (oP s p0 l0)), (2, .val (.bool false)), (3, .sat (aB (s2 + 1) (Bl.bs p0 l0))), (990, .sat (gP (s2 + 1) none)), (5, .val (.string (Bl.atom p0 l0).1)), (7, .val (.bool ((Bl.atom p0 l0).2.2))), (8, .val (.int .i64 (Bl.int p0 l0).1)), (10, .val (.bool ((Bl.int p0 l0).2.2))), (12, .val (.bool ((Bl.callable p0 l0).2))), (14, .val (.bool ((Bl.atomic p0 l0).2))), (15, .sat (nR (s2 + 1) none ((Bl.list p0 l0).1))), (17, .val (.bool ((Bl.list p0 l0).2.2))), (18, .val (.int .i64 (Bl.char p0 l0).1)), (20, .val (.bool ((Bl.char p0 l0).2.2))), (21, .val (.int .i64 (Bl.code p0 l0).1)), (23, .val (.bool ((Bl.code p0 l0).2.2))), (25, .val (.int .i64 (Bl.ind p0 l0).2.1)), (27, .val (.bool ((Bl.ind p0 l0).2.2.2))), (28, .val (.bool (Tm.validB p0 l0)))] w0 a w)
    (hQ : ∀ a' w', Hold 275 [(1, .sat (oP s p0 l0)), (2, .val (.bool false)), (3, .sat (aB (s2 + 1) (Bl.bs p0 l0))), (990, .sat (gP (s2 + 1) none)), (5, .val (.string (Bl.atom p0 l0).1)), (7, .val (.bool ((Bl.atom p0 l0).2.2))), (8, .val (.int .i64 (Bl.int p0 l0).1)), (10, .val (.bool ((Bl.int p0 l0).2.2))), (12, .val (.bool ((Bl.callable p0 l0).2))), (14, .val (.bool ((Bl.atomic p0 l0).2))), (18, .val (.int .i64 (Bl.char p0 l0).1)), (20, .val (.bool ((Bl.char p0 l0).2.2))), (21, .val (.int .i64 (Bl.code p0 l0).1)), (23, .val (.bool ((Bl.code p0 l0).2.2))), (28, .val (.bool (Tm.validB p0 l0))), (188, .val (.bool false))] w0 a' w' → Q .normal a' w') : (Code.region 20 lChecks20Ops false).wp Try.prog Q a w := by
  refine region_seq (w0 := w) 47 (by kernel_rfl) ?_
  rw [show List.range 47 = [0, 1, 2, 3, 4, 5, 6, 7, 8, 9, 10, 11, 12, 13, 14, 15, 16, 17, 18, 19, 20, 21, 22, 23, 24, 25, 26, 27, 28, 29, 30, 31, 32, 33, 34, 35, 36, 37, 38, 39, 40, 41, 42, 43, 44, 45, 46] from rfl]
  refine env_one (i := 0) (d := 142) (k := .val (.bool false)) (step_move (by kernel_rfl) (Opd.of_base 7 rfl) (by rw [b0]; rfl)) (by kernel_rfl) (by decide) h ?_
  clear h
  intro a w h
  refine env_one (i := 1) (d := 143) (k := .val (.bool true)) (step_not (by kernel_rfl) (Opd.of_base 142 rfl) rfl) (by kernel_rfl) (by decide) h ?_
  clear h
  intro a w h
  refine env_one (i := 2) (d := 144) (k := .val (.bool true)) (step_move (by kernel_rfl) (Opd.of_base 143 rfl) rfl) (by kernel_rfl) (by decide) h ?_
  clear h
  intro a w h
  refine env_guard (i := 3) (d := 145) (g := 2) (dg := 144) (b := true) (k := .val (.string ⟨#[]⟩)) (step_move (by kernel_rfl) (Opd.of_base 5 rfl) (by rw [Bl.atom_zero b0]; rfl)) (by kernel_rfl) (by decide) (by kernel_rfl) (by decide) rfl h ?_
  clear h
  intro a w h
  refine env_guard (i := 4) (d := 146) (g := 2) (dg := 144) (b := true) (k := .val (.bool false)) (step_ne_str (s := ⟨#[]⟩) (t := ⟨#[]⟩) (by kernel_rfl) (Opd.of_base 145 rfl) (Opd.const _) (by simp) rfl) (by kernel_rfl) (by decide) (by kernel_rfl) (by decide) rfl h ?_
  clear h
  intro a w h
  refine env_one (i := 5) (d := 147) (k := .val (.bool false)) (step_pick_yes (y := .const (.bool false)) (by kernel_rfl) (Opd.of_base 144 rfl) (Opd.of_base 146 rfl) rfl) (by kernel_rfl) (by decide) h ?_
  clear h
  intro a w h
  refine env_one (i := 6) (d := 148) (k := .val (.bool false)) (step_move (by kernel_rfl) (Opd.of_base 147 rfl) rfl) (by kernel_rfl) (by decide) h ?_
  clear h
  intro a w h
  refine env_guard (i := 7) (d := 149) (g := 6) (dg := 148) (b := false) (k := .val (.bool false)) (step_move (by kernel_rfl) (Opd.of_base 10 rfl) (by rw [b1]; rfl)) (by kernel_rfl) (by decide) (by kernel_rfl) (by decide) rfl h ?_
  clear h
  intro a w h
  refine env_guard (i := 8) (d := 150) (g := 6) (dg := 148) (b := false) (k := .val (.bool true)) (step_not (by kernel_rfl) (Opd.of_base 149 rfl) rfl) (by kernel_rfl) (by decide) (by kernel_rfl) (by decide) rfl h ?_
  clear h
  intro a w h
  refine env_guard (i := 9) (d := 151) (g := 6) (dg := 148) (b := false) (k := .val (.bool true)) (step_move (by kernel_rfl) (Opd.of_base 150 rfl) rfl) (by kernel_rfl) (by decide) (by kernel_rfl) (by decide) rfl h ?_
  clear h
  intro a w h
  refine env_guard (i := 10) (d := 152) (g := 9) (dg := 151) (b := true) (k := .val (.int .i64 0)) (step_move (by kernel_rfl) (Opd.of_base 8 rfl) (by rw [Bl.int_zero b1]; rfl)) (by kernel_rfl) (by decide) (by kernel_rfl) (by decide) rfl h ?_
  clear h
  intro a w h
  refine env_guard (i := 11) (d := 153) (g := 9) (dg := 151) (b := true) (k := .val (.bool false)) (step_ne_int64 (m := 0) (n := 0) (by kernel_rfl) (Opd.of_base 152 rfl) (Opd.const _) (by simp) rfl) (by kernel_rfl) (by decide) (by kernel_rfl) (by decide) rfl h ?_
  clear h
  intro a w h
  refine env_guard (i := 12) (d := 154) (g := 6) (dg := 148) (b := false) (k := .val (.bool false)) (step_pick_yes (y := .const (.bool false)) (by kernel_rfl) (Opd.of_base 151 rfl) (Opd.of_base 153 rfl) rfl) (by kernel_rfl) (by decide) (by kernel_rfl) (by decide) rfl h ?_
  clear h
  intro a w h
  refine env_one (i := 13) (d := 155) (k := .val (.bool false)) (step_pick_no (x := .const (.bool true)) (by kernel_rfl) (Opd.of_base 148 rfl) (Opd.of_base 154 rfl) rfl) (by kernel_rfl) (by decide) h ?_
  clear h
  intro a w h
  refine env_one (i := 14) (d := 156) (k := .val (.bool false)) (step_move (by kernel_rfl) (Opd.of_base 155 rfl) rfl) (by kernel_rfl) (by decide) h ?_
  clear h
  intro a w h
  refine env_guard (i := 15) (d := 157) (g := 14) (dg := 156) (b := false) (k := .val (.bool false)) (step_move (by kernel_rfl) (Opd.of_base 17 rfl) (by rw [b4]; rfl)) (by kernel_rfl) (by decide) (by kernel_rfl) (by decide) rfl h ?_
  clear h
  intro a w h
  refine env_guard (i := 16) (d := 158) (g := 14) (dg := 156) (b := false) (k := .val (.bool true)) (step_not (by kernel_rfl) (Opd.of_base 157 rfl) rfl) (by kernel_rfl) (by decide) (by kernel_rfl) (by decide) rfl h ?_
  clear h
  intro a w h
  refine env_guard (i := 17) (d := 159) (g := 14) (dg := 156) (b := false) (k := .val (.bool true)) (step_move (by kernel_rfl) (Opd.of_base 158 rfl) rfl) (by kernel_rfl) (by decide) (by kernel_rfl) (by decide) rfl h ?_
  clear h
  intro a w h
  refine env_guard (i := 18) (d := 160) (g := 17) (dg := 159) (b := true) (k := .sat (nR (s2 + 1) none .nil)) (step_move (by kernel_rfl) (Opd.of_base 15 rfl) (by rw [Bl.list_zero b4]; rfl)) (by kernel_rfl) (by decide) (by kernel_rfl) (by decide) rfl h ?_
  clear h
  intro a w h
  refine env_guard (i := 19) (d := 161) (g := 17) (dg := 159) (b := true) (k := .val (.int .i64 ((Tm.len .nil : Nat) : Int))) (step_len_row (by kernel_rfl) (Opd.ofR (Opd.of_base 160 rfl)) rfl) (by kernel_rfl) (by decide) (by kernel_rfl) (by decide) rfl h ?_
  clear h
  intro a w h
  refine env_guard (i := 20) (d := 162) (g := 17) (dg := 159) (b := true) (k := .val (.bool false)) (step_ne_int (m := ((Tm.len .nil : Nat) : Int)) (n := 0) (by kernel_rfl) (Opd.of_base 161 rfl) (Opd.const _) rfl rfl) (by kernel_rfl) (by decide) (by kernel_rfl) (by decide) rfl h ?_
  clear h
  intro a w h
  refine env_guard (i := 21) (d := 163) (g := 14) (dg := 156) (b := false) (k := .val (.bool false)) (step_pick_yes (y := .const (.bool false)) (by kernel_rfl) (Opd.of_base 159 rfl) (Opd.of_base 162 rfl) rfl) (by kernel_rfl) (by decide) (by kernel_rfl) (by decide) rfl h ?_
  clear h
  intro a w h
  refine env_one (i := 22) (d := 164) (k := .val (.bool false)) (step_pick_no (x := .const (.bool true)) (by kernel_rfl) (Opd.of_base 156 rfl) (Opd.of_base 163 rfl) rfl) (by kernel_rfl) (by decide) h ?_
  clear h
  intro a w h
  refine env_one (i := 23) (d := 165) (k := .val (.bool false)) (step_move (by kernel_rfl) (Opd.of_base 164 rfl) rfl) (by kernel_rfl) (by decide) h ?_
  clear h
  intro a w h
  refine env_guard (i := 24) (d := 166) (g := 23) (dg := 165) (b := false) (k := .val (.bool false)) (step_move (by kernel_rfl) (Opd.of_base 20 rfl) (by rw [b5]; rfl)) (by kernel_rfl) (by decide) (by kernel_rfl) (by decide) rfl h ?_
  clear h
  intro a w h
  refine env_guard (i := 25) (d := 167) (g := 23) (dg := 165) (b := false) (k := .val (.bool true)) (step_not (by kernel_rfl) (Opd.of_base 166 rfl) rfl) (by kernel_rfl) (by decide) (by kernel_rfl) (by decide) rfl h ?_
  clear h
  intro a w h
  refine env_guard (i := 26) (d := 168) (g := 23) (dg := 165) (b := false) (k := .val (.bool true)) (step_move (by kernel_rfl) (Opd.of_base 167 rfl) rfl) (by kernel_rfl) (by decide) (by kernel_rfl) (by decide) rfl h ?_
  clear h
  intro a w h
  refine env_guard (i := 27) (d := 169) (g := 26) (dg := 168) (b := true) (k := .val (.int .i64 0)) (step_move (by kernel_rfl) (Opd.of_base 18 rfl) (by rw [Bl.char_zero b5]; rfl)) (by kernel_rfl) (by decide) (by kernel_rfl) (by decide) rfl h ?_
  clear h
  intro a w h
  refine env_guard (i := 28) (d := 170) (g := 26) (dg := 168) (b := true) (k := .val (.bool false)) (step_ne_int (m := 0) (n := 0) (by kernel_rfl) (Opd.of_base 169 rfl) (Opd.const _) (by simp) rfl) (by kernel_rfl) (by decide) (by kernel_rfl) (by decide) rfl h ?_
  clear h
  intro a w h
  refine env_guard (i := 29) (d := 171) (g := 23) (dg := 165) (b := false) (k := .val (.bool false)) (step_pick_yes (y := .const (.bool false)) (by kernel_rfl) (Opd.of_base 168 rfl) (Opd.of_base 170 rfl) rfl) (by kernel_rfl) (by decide) (by kernel_rfl) (by decide) rfl h ?_
  clear h
  intro a w h
  refine env_one (i := 30) (d := 172) (k := .val (.bool false)) (step_pick_no (x := .const (.bool true)) (by kernel_rfl) (Opd.of_base 165 rfl) (Opd.of_base 171 rfl) rfl) (by kernel_rfl) (by decide) h ?_
  clear h
  intro a w h
  refine env_one (i := 31) (d := 173) (k := .val (.bool false)) (step_move (by kernel_rfl) (Opd.of_base 172 rfl) rfl) (by kernel_rfl) (by decide) h ?_
  clear h
  intro a w h
  refine env_guard (i := 32) (d := 174) (g := 31) (dg := 173) (b := false) (k := .val (.bool false)) (step_move (by kernel_rfl) (Opd.of_base 23 rfl) (by rw [b6]; rfl)) (by kernel_rfl) (by decide) (by kernel_rfl) (by decide) rfl h ?_
  clear h
  intro a w h
  refine env_guard (i := 33) (d := 175) (g := 31) (dg := 173) (b := false) (k := .val (.bool true)) (step_not (by kernel_rfl) (Opd.of_base 174 rfl) rfl) (by kernel_rfl) (by decide) (by kernel_rfl) (by decide) rfl h ?_
  clear h
  intro a w h
  refine env_guard (i := 34) (d := 176) (g := 31) (dg := 173) (b := false) (k := .val (.bool true)) (step_move (by kernel_rfl) (Opd.of_base 175 rfl) rfl) (by kernel_rfl) (by decide) (by kernel_rfl) (by decide) rfl h ?_
  clear h
  intro a w h
  refine env_guard (i := 35) (d := 177) (g := 34) (dg := 176) (b := true) (k := .val (.int .i64 0)) (step_move (by kernel_rfl) (Opd.of_base 21 rfl) (by rw [Bl.code_zero b6]; rfl)) (by kernel_rfl) (by decide) (by kernel_rfl) (by decide) rfl h ?_
  clear h
  intro a w h
  refine env_guard (i := 36) (d := 178) (g := 34) (dg := 176) (b := true) (k := .val (.bool false)) (step_ne_int (m := 0) (n := 0) (by kernel_rfl) (Opd.of_base 177 rfl) (Opd.const _) (by simp) rfl) (by kernel_rfl) (by decide) (by kernel_rfl) (by decide) rfl h ?_
  clear h
  intro a w h
  refine env_guard (i := 37) (d := 179) (g := 31) (dg := 173) (b := false) (k := .val (.bool false)) (step_pick_yes (y := .const (.bool false)) (by kernel_rfl) (Opd.of_base 176 rfl) (Opd.of_base 178 rfl) rfl) (by kernel_rfl) (by decide) (by kernel_rfl) (by decide) rfl h ?_
  clear h
  intro a w h
  refine env_one (i := 38) (d := 180) (k := .val (.bool false)) (step_pick_no (x := .const (.bool true)) (by kernel_rfl) (Opd.of_base 173 rfl) (Opd.of_base 179 rfl) rfl) (by kernel_rfl) (by decide) h ?_
  clear h
  intro a w h
  refine env_one (i := 39) (d := 181) (k := .val (.bool false)) (step_move (by kernel_rfl) (Opd.of_base 180 rfl) rfl) (by kernel_rfl) (by decide) h ?_
  clear h
  intro a w h
  refine env_guard (i := 40) (d := 182) (g := 39) (dg := 181) (b := false) (k := .val (.bool true)) (step_move (by kernel_rfl) (Opd.of_base 27 rfl) (by rw [b7]; rfl)) (by kernel_rfl) (by decide) (by kernel_rfl) (by decide) rfl h ?_
  clear h
  intro a w h
  refine env_guard (i := 41) (d := 183) (g := 39) (dg := 181) (b := false) (k := .val (.bool false)) (step_not (by kernel_rfl) (Opd.of_base 182 rfl) rfl) (by kernel_rfl) (by decide) (by kernel_rfl) (by decide) rfl h ?_
  clear h
  intro a w h
  refine env_guard (i := 42) (d := 184) (g := 39) (dg := 181) (b := false) (k := .val (.bool false)) (step_move (by kernel_rfl) (Opd.of_base 183 rfl) rfl) (by kernel_rfl) (by decide) (by kernel_rfl) (by decide) rfl h ?_
  clear h
  intro a w h
  refine env_skip (i := 43) (d := 185) (g := 42) (dg := 184) (b := true) (by kernel_rfl) (by decide) (by kernel_rfl) rfl rfl h ?_
  clear h
  intro a w h
  refine env_skip (i := 44) (d := 186) (g := 42) (dg := 184) (b := true) (by kernel_rfl) (by decide) (by kernel_rfl) rfl rfl h ?_
  clear h
  intro a w h
  refine env_guard (i := 45) (d := 187) (g := 39) (dg := 181) (b := false) (k := .val (.bool false)) (step_pick_no (x := .tmp 186) (by kernel_rfl) (Opd.of_base 184 rfl) (Opd.const _) rfl) (by kernel_rfl) (by decide) (by kernel_rfl) (by decide) rfl h ?_
  clear h
  intro a w h
  refine env_one (i := 46) (d := 188) (k := .val (.bool false)) (step_pick_no (x := .const (.bool true)) (by kernel_rfl) (Opd.of_base 181 rfl) (Opd.of_base 187 rfl) rfl) (by kernel_rfl) (by decide) h ?_
  clear h
  intro a w h
  exact hQ a w (h.keep [1, 2, 3, 990, 5, 7, 8, 10, 12, 14, 18, 20, 21, 23, 28, 188])
theorem lChecks20c_region {Q : Exit → Act → World → Prop} (p0 : Pay) (l0 : Fo) (s : Nat) (s2 : Nat) (b0 : (Bl.atom p0 l0).2.2 = false) (b1 : (Bl.int p0 l0).2.2 = false) (b4 : (Bl.list p0 l0).2.2 = true) (b5 : (Bl.char p0 l0).2.2 = false) (b6 : (Bl.code p0 l0).2.2 = false) (b7 : (Bl.ind p0 l0).2.2.2 = false) {w0 : World} {a : Act} {w : World} (h : Hold 275 [(1, .sat (oP s p0 l0)), (2, .val (.bool false)), (3, .sat (aB (s2 + 1) (Bl.bs p0 l0))), (990, .sat (gP (s2 + 1) none)), (5, .val (.string (Bl.atom p0 l0).1)), (7, .val (.bool ((Bl.atom p0 l0).2.2))), (8, .val (.int .i64 (Bl.int p0 l0).1)), (10, .val (.bool ((Bl.int p0 l0).2.2))), (12, .val (.bool ((Bl.callable p0 l0).2))), (14, .val (.bool ((Bl.atomic p0 l0).2))), (15, .sat (nR (s2 + 1) none ((Bl.list p0 l0).1))), (17, .val (.bool ((Bl.list p0 l0).2.2))), (18, .val (.int .i64 (Bl.char p0 l0).1)), (20, .val (.bool ((Bl.char p0 l0).2.2))), (21, .val (.int .i64 (Bl.code p0 l0).1)), (23, .val (.bool ((Bl.code p0 l0).2.2))), (25, .val (.int .i64 (Bl.ind p0 l0).2.1)), (27, .val (.bool ((Bl.ind p0 l0).2.2.2))), (28, .val (.bool (Tm.validB p0 l0)))] w0 a w)
    (hQ : ∀ a' w', Hold 275 [(1, .sat (oP s p0 l0)), (2, .val (.bool false)), (3, .sat (aB (s2 + 1) (Bl.bs p0 l0))), (990, .sat (gP (s2 + 1) none)), (5, .val (.string (Bl.atom p0 l0).1)), (7, .val (.bool ((Bl.atom p0 l0).2.2))), (8, .val (.int .i64 (Bl.int p0 l0).1)), (10, .val (.bool ((Bl.int p0 l0).2.2))), (12, .val (.bool ((Bl.callable p0 l0).2))), (14, .val (.bool ((Bl.atomic p0 l0).2))), (18, .val (.int .i64 (Bl.char p0 l0).1)), (20, .val (.bool ((Bl.char p0 l0).2.2))), (21, .val (.int .i64 (Bl.code p0 l0).1)), (23, .val (.bool ((Bl.code p0 l0).2.2))), (28, .val (.bool (Tm.validB p0 l0))), (188, .val (.bool false))] w0 a' w' → Q .normal a' w') : (Code.region 20 lChecks20Ops false).wp Try.prog Q a w := by
  refine region_seq (w0 := w) 47 (by kernel_rfl) ?_
  rw [show List.range 47 = [0, 1, 2, 3, 4, 5, 6, 7, 8, 9, 10, 11, 12, 13, 14, 15, 16, 17, 18, 19, 20, 21, 22, 23, 24, 25, 26, 27, 28, 29, 30, 31, 32, 33, 34, 35, 36, 37, 38, 39, 40, 41, 42, 43, 44, 45, 46] from rfl]
  refine env_one (i := 0) (d := 142) (k := .val (.bool false)) (step_move (by kernel_rfl) (Opd.of_base 7 rfl) (by rw [b0]; rfl)) (by kernel_rfl) (by decide) h ?_
  clear h
  intro a w h
  refine env_one (i := 1) (d := 143) (k := .val (.bool true)) (step_not (by kernel_rfl) (Opd.of_base 142 rfl) rfl) (by kernel_rfl) (by decide) h ?_
  clear h
  intro a w h
  refine env_one (i := 2) (d := 144) (k := .val (.bool true)) (step_move (by kernel_rfl) (Opd.of_base 143 rfl) rfl) (by kernel_rfl) (by decide) h ?_
  clear h
  intro a w h
  refine env_guard (i := 3) (d := 145) (g := 2) (dg := 144) (b := true) (k := .val (.string ⟨#[]⟩)) (step_move (by kernel_rfl) (Opd.of_base 5 rfl) (by rw [Bl.atom_zero b0]; rfl)) (by kernel_rfl) (by decide) (by kernel_rfl) (by decide) rfl h ?_
  clear h
  intro a w h
  refine env_guard (i := 4) (d := 146) (g := 2) (dg := 144) (b := true) (k := .val (.bool false)) (step_ne_str (s := ⟨#[]⟩) (t := ⟨#[]⟩) (by kernel_rfl) (Opd.of_base 145 rfl) (Opd.const _) (by simp) rfl) (by kernel_rfl) (by decide) (by kernel_rfl) (by decide) rfl h ?_
  clear h
  intro a w h
  refine env_one (i := 5) (d := 147) (k := .val (.bool false)) (step_pick_yes (y := .const (.bool false)) (by kernel_rfl) (Opd.of_base 144 rfl) (Opd.of_base 146 rfl) rfl) (by kernel_rfl) (by decide) h ?_
  clear h
  intro a w h
  refine env_one (i := 6) (d := 148) (k := .val (.bool false)) (step_move (by kernel_rfl) (Opd.of_base 147 rfl) rfl) (by kernel_rfl) (by decide) h ?_
  clear h
  intro a w h
  refine env_guard (i := 7) (d := 149) (g := 6) (dg := 148) (b := false) (k := .val (.bool false)) (step_move (by kernel_rfl) (Opd.of_base 10 rfl) (by rw [b1]; rfl)) (by kernel_rfl) (by decide) (by kernel_rfl) (by decide) rfl h ?_
  clear h
  intro a w h
  refine env_guard (i := 8) (d := 150) (g := 6) (dg := 148) (b := false) (k := .val (.bool true)) (step_not (by kernel_rfl) (Opd.of_base 149 rfl) rfl) (by kernel_rfl) (by decide) (by kernel_rfl) (by decide) rfl h ?_
  clear h
  intro a w h
  refine env_guard (i := 9) (d := 151) (g := 6) (dg := 148) (b := false) (k := .val (.bool true)) (step_move (by kernel_rfl) (Opd.of_base 150 rfl) rfl) (by kernel_rfl) (by decide) (by kernel_rfl) (by decide) rfl h ?_
  clear h
  intro a w h
  refine env_guard (i := 10) (d := 152) (g := 9) (dg := 151) (b := true) (k := .val (.int .i64 0)) (step_move (by kernel_rfl) (Opd.of_base 8 rfl) (by rw [Bl.int_zero b1]; rfl)) (by kernel_rfl) (by decide) (by kernel_rfl) (by decide) rfl h ?_
  clear h
  intro a w h
  refine env_guard (i := 11) (d := 153) (g := 9) (dg := 151) (b := true) (k := .val (.bool false)) (step_ne_int64 (m := 0) (n := 0) (by kernel_rfl) (Opd.of_base 152 rfl) (Opd.const _) (by simp) rfl) (by kernel_rfl) (by decide) (by kernel_rfl) (by decide) rfl h ?_
  clear h
  intro a w h
  refine env_guard (i := 12) (d := 154) (g := 6) (dg := 148) (b := false) (k := .val (.bool false)) (step_pick_yes (y := .const (.bool false)) (by kernel_rfl) (Opd.of_base 151 rfl) (Opd.of_base 153 rfl) rfl) (by kernel_rfl) (by decide) (by kernel_rfl) (by decide) rfl h ?_
  clear h
  intro a w h
  refine env_one (i := 13) (d := 155) (k := .val (.bool false)) (step_pick_no (x := .const (.bool true)) (by kernel_rfl) (Opd.of_base 148 rfl) (Opd.of_base 154 rfl) rfl) (by kernel_rfl) (by decide) h ?_
  clear h
  intro a w h
  refine env_one (i := 14) (d := 156) (k := .val (.bool false)) (step_move (by kernel_rfl) (Opd.of_base 155 rfl) rfl) (by kernel_rfl) (by decide) h ?_
  clear h
  intro a w h
  refine env_guard (i := 15) (d := 157) (g := 14) (dg := 156) (b := false) (k := .val (.bool true)) (step_move (by kernel_rfl) (Opd.of_base 17 rfl) (by rw [b4]; rfl)) (by kernel_rfl) (by decide) (by kernel_rfl) (by decide) rfl h ?_
  clear h
  intro a w h
  refine env_guard (i := 16) (d := 158) (g := 14) (dg := 156) (b := false) (k := .val (.bool false)) (step_not (by kernel_rfl) (Opd.of_base 157 rfl) rfl) (by kernel_rfl) (by decide) (by kernel_rfl) (by decide) rfl h ?_
  clear h
  intro a w h
  refine env_guard (i := 17) (d := 159) (g := 14) (dg := 156) (b := false) (k := .val (.bool false)) (step_move (by kernel_rfl) (Opd.of_base 158 rfl) rfl) (by kernel_rfl) (by decide) (by kernel_rfl) (by decide) rfl h ?_
  clear h
  intro a w h
  refine env_skip (i := 18) (d := 160) (g := 17) (dg := 159) (b := true) (by kernel_rfl) (by decide) (by kernel_rfl) rfl rfl h ?_
  clear h
  intro a w h
  refine env_skip (i := 19) (d := 161) (g := 17) (dg := 159) (b := true) (by kernel_rfl) (by decide) (by kernel_rfl) rfl rfl h ?_
  clear h
  intro a w h
  refine env_skip (i := 20) (d := 162) (g := 17) (dg := 159) (b := true) (by kernel_rfl) (by decide) (by kernel_rfl) rfl rfl h ?_
  clear h
  intro a w h
  refine env_guard (i := 21) (d := 163) (g := 14) (dg := 156) (b := false) (k := .val (.bool false)) (step_pick_no (x := .tmp 162) (by kernel_rfl) (Opd.of_base 159 rfl) (Opd.const _) rfl) (by kernel_rfl) (by decide) (by kernel_rfl) (by decide) rfl h ?_
  clear h
  intro a w h
  refine env_one (i := 22) (d := 164) (k := .val (.bool false)) (step_pick_no (x := .const (.bool true)) (by kernel_rfl) (Opd.of_base 156 rfl) (Opd.of_base 163 rfl) rfl) (by kernel_rfl) (by decide) h ?_
  clear h
  intro a w h
  refine env_one (i := 23) (d := 165) (k := .val (.bool false)) (step_move (by kernel_rfl) (Opd.of_base 164 rfl) rfl) (by kernel_rfl) (by decide) h ?_
  clear h
  intro a w h
  refine env_guard (i := 24) (d := 166) (g := 23) (dg := 165) (b := false) (k := .val (.bool false)) (step_move (by kernel_rfl) (Opd.of_base 20 rfl) (by rw [b5]; rfl)) (by kernel_rfl) (by decide) (by kernel_rfl) (by decide) rfl h ?_
  clear h
  intro a w h
  refine env_guard (i := 25) (d := 167) (g := 23) (dg := 165) (b := false) (k := .val (.bool true)) (step_not (by kernel_rfl) (Opd.of_base 166 rfl) rfl) (by kernel_rfl) (by decide) (by kernel_rfl) (by decide) rfl h ?_
  clear h
  intro a w h
  refine env_guard (i := 26) (d := 168) (g := 23) (dg := 165) (b := false) (k := .val (.bool true)) (step_move (by kernel_rfl) (Opd.of_base 167 rfl) rfl) (by kernel_rfl) (by decide) (by kernel_rfl) (by decide) rfl h ?_
  clear h
  intro a w h
  refine env_guard (i := 27) (d := 169) (g := 26) (dg := 168) (b := true) (k := .val (.int .i64 0)) (step_move (by kernel_rfl) (Opd.of_base 18 rfl) (by rw [Bl.char_zero b5]; rfl)) (by kernel_rfl) (by decide) (by kernel_rfl) (by decide) rfl h ?_
  clear h
  intro a w h
  refine env_guard (i := 28) (d := 170) (g := 26) (dg := 168) (b := true) (k := .val (.bool false)) (step_ne_int (m := 0) (n := 0) (by kernel_rfl) (Opd.of_base 169 rfl) (Opd.const _) (by simp) rfl) (by kernel_rfl) (by decide) (by kernel_rfl) (by decide) rfl h ?_
  clear h
  intro a w h
  refine env_guard (i := 29) (d := 171) (g := 23) (dg := 165) (b := false) (k := .val (.bool false)) (step_pick_yes (y := .const (.bool false)) (by kernel_rfl) (Opd.of_base 168 rfl) (Opd.of_base 170 rfl) rfl) (by kernel_rfl) (by decide) (by kernel_rfl) (by decide) rfl h ?_
  clear h
  intro a w h
  refine env_one (i := 30) (d := 172) (k := .val (.bool false)) (step_pick_no (x := .const (.bool true)) (by kernel_rfl) (Opd.of_base 165 rfl) (Opd.of_base 171 rfl) rfl) (by kernel_rfl) (by decide) h ?_
  clear h
  intro a w h
  refine env_one (i := 31) (d := 173) (k := .val (.bool false)) (step_move (by kernel_rfl) (Opd.of_base 172 rfl) rfl) (by kernel_rfl) (by decide) h ?_
  clear h
  intro a w h
  refine env_guard (i := 32) (d := 174) (g := 31) (dg := 173) (b := false) (k := .val (.bool false)) (step_move (by kernel_rfl) (Opd.of_base 23 rfl) (by rw [b6]; rfl)) (by kernel_rfl) (by decide) (by kernel_rfl) (by decide) rfl h ?_
  clear h
  intro a w h
  refine env_guard (i := 33) (d := 175) (g := 31) (dg := 173) (b := false) (k := .val (.bool true)) (step_not (by kernel_rfl) (Opd.of_base 174 rfl) rfl) (by kernel_rfl) (by decide) (by kernel_rfl) (by decide) rfl h ?_
  clear h
  intro a w h
  refine env_guard (i := 34) (d := 176) (g := 31) (dg := 173) (b := false) (k := .val (.bool true)) (step_move (by kernel_rfl) (Opd.of_base 175 rfl) rfl) (by kernel_rfl) (by decide) (by kernel_rfl) (by decide) rfl h ?_
  clear h
  intro a w h
  refine env_guard (i := 35) (d := 177) (g := 34) (dg := 176) (b := true) (k := .val (.int .i64 0)) (step_move (by kernel_rfl) (Opd.of_base 21 rfl) (by rw [Bl.code_zero b6]; rfl)) (by kernel_rfl) (by decide) (by kernel_rfl) (by decide) rfl h ?_
  clear h
  intro a w h
  refine env_guard (i := 36) (d := 178) (g := 34) (dg := 176) (b := true) (k := .val (.bool false)) (step_ne_int (m := 0) (n := 0) (by kernel_rfl) (Opd.of_base 177 rfl) (Opd.const _) (by simp) rfl) (by kernel_rfl) (by decide) (by kernel_rfl) (by decide) rfl h ?_
  clear h
  intro a w h
  refine env_guard (i := 37) (d := 179) (g := 31) (dg := 173) (b := false) (k := .val (.bool false)) (step_pick_yes (y := .const (.bool false)) (by kernel_rfl) (Opd.of_base 176 rfl) (Opd.of_base 178 rfl) rfl) (by kernel_rfl) (by decide) (by kernel_rfl) (by decide) rfl h ?_
  clear h
  intro a w h
  refine env_one (i := 38) (d := 180) (k := .val (.bool false)) (step_pick_no (x := .const (.bool true)) (by kernel_rfl) (Opd.of_base 173 rfl) (Opd.of_base 179 rfl) rfl) (by kernel_rfl) (by decide) h ?_
  clear h
  intro a w h
  refine env_one (i := 39) (d := 181) (k := .val (.bool false)) (step_move (by kernel_rfl) (Opd.of_base 180 rfl) rfl) (by kernel_rfl) (by decide) h ?_
  clear h
  intro a w h
  refine env_guard (i := 40) (d := 182) (g := 39) (dg := 181) (b := false) (k := .val (.bool false)) (step_move (by kernel_rfl) (Opd.of_base 27 rfl) (by rw [b7]; rfl)) (by kernel_rfl) (by decide) (by kernel_rfl) (by decide) rfl h ?_
  clear h
  intro a w h
  refine env_guard (i := 41) (d := 183) (g := 39) (dg := 181) (b := false) (k := .val (.bool true)) (step_not (by kernel_rfl) (Opd.of_base 182 rfl) rfl) (by kernel_rfl) (by decide) (by kernel_rfl) (by decide) rfl h ?_
  clear h
  intro a w h
  refine env_guard (i := 42) (d := 184) (g := 39) (dg := 181) (b := false) (k := .val (.bool true)) (step_move (by kernel_rfl) (Opd.of_base 183 rfl) rfl) (by kernel_rfl) (by decide) (by kernel_rfl) (by decide) rfl h ?_
  clear h
  intro a w h
  refine env_guard (i := 43) (d := 185) (g := 42) (dg := 184) (b := true) (k := .val (.int .i64 0)) (step_move (by kernel_rfl) (Opd.of_base 25 rfl) (by rw [Bl.ind_zero b7]; rfl)) (by kernel_rfl) (by decide) (by kernel_rfl) (by decide) rfl h ?_
  clear h
  intro a w h
  refine env_guard (i := 44) (d := 186) (g := 42) (dg := 184) (b := true) (k := .val (.bool false)) (step_ne_int (m := 0) (n := 0) (by kernel_rfl) (Opd.of_base 185 rfl) (Opd.const _) (by simp) rfl) (by kernel_rfl) (by decide) (by kernel_rfl) (by decide) rfl h ?_
  clear h
  intro a w h
  refine env_guard (i := 45) (d := 187) (g := 39) (dg := 181) (b := false) (k := .val (.bool false)) (step_pick_yes (y := .const (.bool false)) (by kernel_rfl) (Opd.of_base 184 rfl) (Opd.of_base 186 rfl) rfl) (by kernel_rfl) (by decide) (by kernel_rfl) (by decide) rfl h ?_
  clear h
  intro a w h
  refine env_one (i := 46) (d := 188) (k := .val (.bool false)) (step_pick_no (x := .const (.bool true)) (by kernel_rfl) (Opd.of_base 181 rfl) (Opd.of_base 187 rfl) rfl) (by kernel_rfl) (by decide) h ?_
  clear h
  intro a w h
  exact hQ a w (h.keep [1, 2, 3, 990, 5, 7, 8, 10, 12, 14, 18, 20, 21, 23, 28, 188])
theorem lChecks20d_region {Q : Exit → Act → World → Prop} (p0 : Pay) (l0 : Fo) (s : Nat) (s2 : Nat) (b0 : (Bl.atom p0 l0).2.2 = false) (b1 : (Bl.int p0 l0).2.2 = false) (b4 : (Bl.list p0 l0).2.2 = true) (b5 : (Bl.char p0 l0).2.2 = false) (b6 : (Bl.code p0 l0).2.2 = false) (b7 : (Bl.ind p0 l0).2.2.2 = true) {w0 : World} {a : Act} {w : World} (h : Hold 275 [(1, .sat (oP s p0 l0)), (2, .val (.bool false)), (3, .sat (aB (s2 + 1) (Bl.bs p0 l0))), (990, .sat (gP (s2 + 1) none)), (5, .val (.string (Bl.atom p0 l0).1)), (7, .val (.bool ((Bl.atom p0 l0).2.2))), (8, .val (.int .i64 (Bl.int p0 l0).1)), (10, .val (.bool ((Bl.int p0 l0).2.2))), (12, .val (.bool ((Bl.callable p0 l0).2))), (14, .val (.bool ((Bl.atomic p0 l0).2))), (15, .sat (nR (s2 + 1) none ((Bl.list p0 l0).1))), (17, .val (.bool ((Bl.list p0 l0).2.2))), (18, .val (.int .i64 (Bl.char p0 l0).1)), (20, .val (.bool ((Bl.char p0 l0).2.2))), (21, .val (.int .i64 (Bl.code p0 l0).1)), (23, .val (.bool ((Bl.code p0 l0).2.2))), (25, .val (.int .i64 (Bl.ind p0 l0).2.1)), (27, .val (.bool ((Bl.ind p0 l0).2.2.2))), (28, .val (.bool (Tm.validB p0 l0)))] w0 a w)
    (hQ : ∀ a' w', Hold 275 [(1, .sat (oP s p0 l0)), (2, .val (.bool false)), (3, .sat (aB (s2 + 1) (Bl.bs p0 l0))), (990, .sat (gP (s2 + 1) none)), (5, .val (.string (Bl.atom p0 l0).1)), (7, .val (.bool ((Bl.atom p0 l0).2.2))), (8, .val (.int .i64 (Bl.int p0 l0).1)), (10, .val (.bool ((Bl.int p0 l0).2.2))), (12, .val (.bool ((Bl.callable p0 l0).2))), (14, .val (.bool ((Bl.atomic p0 l0).2))), (18, .val (.int .i64 (Bl.char p0 l0).1)), (20, .val (.bool ((Bl.char p0 l0).2.2))), (21, .val (.int .i64 (Bl.code p0 l0).1)), (23, .val (.bool ((Bl.code p0 l0).2.2))), (28, .val (.bool (Tm.validB p0 l0))), (188, .val (.bool false))] w0 a' w' → Q .normal a' w') : (Code.region 20 lChecks20Ops false).wp Try.prog Q a w := by
  refine region_seq (w0 := w) 47 (by kernel_rfl) ?_
  rw [show List.range 47 = [0, 1, 2, 3, 4, 5, 6, 7, 8, 9, 10, 11, 12, 13, 14, 15, 16, 17, 18, 19, 20, 21, 22, 23, 24, 25, 26, 27, 28, 29, 30, 31, 32, 33, 34, 35, 36, 37, 38, 39, 40, 41, 42, 43, 44, 45, 46] from rfl]
  refine env_one (i := 0) (d := 142) (k := .val (.bool false)) (step_move (by kernel_rfl) (Opd.of_base 7 rfl) (by rw [b0]; rfl)) (by kernel_rfl) (by decide) h ?_
  clear h
  intro a w h
  refine env_one (i := 1) (d := 143) (k := .val (.bool true)) (step_not (by kernel_rfl) (Opd.of_base 142 rfl) rfl) (by kernel_rfl) (by decide) h ?_
  clear h
  intro a w h
  refine env_one (i := 2) (d := 144) (k := .val (.bool true)) (step_move (by kernel_rfl) (Opd.of_base 143 rfl) rfl) (by kernel_rfl) (by decide) h ?_
  clear h
  intro a w h
  refine env_guard (i := 3) (d := 145) (g := 2) (dg := 144) (b := true) (k := .val (.string ⟨#[]⟩)) (step_move (by kernel_rfl) (Opd.of_base 5 rfl) (by rw [Bl.atom_zero b0]; rfl)) (by kernel_rfl) (by decide) (by kernel_rfl) (by decide) rfl h ?_
  clear h
  intro a w h
  refine env_guard (i := 4) (d := 146) (g := 2) (dg := 144) (b := true) (k := .val (.bool false)) (step_ne_str (s := ⟨#[]⟩) (t := ⟨#[]⟩) (by kernel_rfl) (Opd.of_base 145 rfl) (Opd.const _) (by simp) rfl) (by kernel_rfl) (by decide) (by kernel_rfl) (by decide) rfl h ?_
  clear h
  intro a w h
  refine env_one (i := 5) (d := 147) (k := .val (.bool false)) (step_pick_yes (y := .const (.bool false)) (by kernel_rfl) (Opd.of_base 144 rfl) (Opd.of_base 146 rfl) rfl) (by kernel_rfl) (by decide) h ?_
  clear h
  intro a w h
  refine env_one (i := 6) (d := 148) (k := .val (.bool false)) (step_move (by kernel_rfl) (Opd.of_base 147 rfl) rfl) (by kernel_rfl) (by decide) h ?_
  clear h
  intro a w h
  refine env_guard (i := 7) (d := 149) (g := 6) (dg := 148) (b := false) (k := .val (.bool false)) (step_move (by kernel_rfl) (Opd.of_base 10 rfl) (by rw [b1]; rfl)) (by kernel_rfl) (by decide) (by kernel_rfl) (by decide) rfl h ?_
  clear h
  intro a w h
  refine env_guard (i := 8) (d := 150) (g := 6) (dg := 148) (b := false) (k := .val (.bool true)) (step_not (by kernel_rfl) (Opd.of_base 149 rfl) rfl) (by kernel_rfl) (by decide) (by kernel_rfl) (by decide) rfl h ?_
  clear h
  intro a w h
  refine env_guard (i := 9) (d := 151) (g := 6) (dg := 148) (b := false) (k := .val (.bool true)) (step_move (by kernel_rfl) (Opd.of_base 150 rfl) rfl) (by kernel_rfl) (by decide) (by kernel_rfl) (by decide) rfl h ?_
  clear h
  intro a w h
  refine env_guard (i := 10) (d := 152) (g := 9) (dg := 151) (b := true) (k := .val (.int .i64 0)) (step_move (by kernel_rfl) (Opd.of_base 8 rfl) (by rw [Bl.int_zero b1]; rfl)) (by kernel_rfl) (by decide) (by kernel_rfl) (by decide) rfl h ?_
  clear h
  intro a w h
  refine env_guard (i := 11) (d := 153) (g := 9) (dg := 151) (b := true) (k := .val (.bool false)) (step_ne_int64 (m := 0) (n := 0) (by kernel_rfl) (Opd.of_base 152 rfl) (Opd.const _) (by simp) rfl) (by kernel_rfl) (by decide) (by kernel_rfl) (by decide) rfl h ?_
  clear h
  intro a w h
  refine env_guard (i := 12) (d := 154) (g := 6) (dg := 148) (b := false) (k := .val (.bool false)) (step_pick_yes (y := .const (.bool false)) (by kernel_rfl) (Opd.of_base 151 rfl) (Opd.of_base 153 rfl) rfl) (by kernel_rfl) (by decide) (by kernel_rfl) (by decide) rfl h ?_
  clear h
  intro a w h
  refine env_one (i := 13) (d := 155) (k := .val (.bool false)) (step_pick_no (x := .const (.bool true)) (by kernel_rfl) (Opd.of_base 148 rfl) (Opd.of_base 154 rfl) rfl) (by kernel_rfl) (by decide) h ?_
  clear h
  intro a w h
  refine env_one (i := 14) (d := 156) (k := .val (.bool false)) (step_move (by kernel_rfl) (Opd.of_base 155 rfl) rfl) (by kernel_rfl) (by decide) h ?_
  clear h
  intro a w h
  refine env_guard (i := 15) (d := 157) (g := 14) (dg := 156) (b := false) (k := .val (.bool true)) (step_move (by kernel_rfl) (Opd.of_base 17 rfl) (by rw [b4]; rfl)) (by kernel_rfl) (by decide) (by kernel_rfl) (by decide) rfl h ?_
  clear h
  intro a w h
  refine env_guard (i := 16) (d := 158) (g := 14) (dg := 156) (b := false) (k := .val (.bool false)) (step_not (by kernel_rfl) (Opd.of_base 157 rfl) rfl) (by kernel_rfl) (by decide) (by kernel_rfl) (by decide) rfl h ?_
  clear h
  intro a w h
  refine env_guard (i := 17) (d := 159) (g := 14) (dg := 156) (b := false) (k := .val (.bool false)) (step_move (by kernel_rfl) (Opd.of_base 158 rfl) rfl) (by kernel_rfl) (by decide) (by kernel_rfl) (by decide) rfl h ?_
  clear h
  intro a w h
  refine env_skip (i := 18) (d := 160) (g := 17) (dg := 159) (b := true) (by kernel_rfl) (by decide) (by kernel_rfl) rfl rfl h ?_
  clear h
  intro a w h
  refine env_skip (i := 19) (d := 161) (g := 17) (dg := 159) (b := true) (by kernel_rfl) (by decide) (by kernel_rfl) rfl rfl h ?_
  clear h
  intro a w h
  refine env_skip (i := 20) (d := 162) (g := 17) (dg := 159) (b := true) (by kernel_rfl) (by decide) (by kernel_rfl) rfl rfl h ?_
  clear h
  intro a w h
  refine env_guard (i := 21) (d := 163) (g := 14) (dg := 156) (b := false) (k := .val (.bool false)) (step_pick_no (x := .tmp 162) (by kernel_rfl) (Opd.of_base 159 rfl) (Opd.const _) rfl) (by kernel_rfl) (by decide) (by kernel_rfl) (by decide) rfl h ?_
  clear h
  intro a w h
  refine env_one (i := 22) (d := 164) (k := .val (.bool false)) (step_pick_no (x := .const (.bool true)) (by kernel_rfl) (Opd.of_base 156 rfl) (Opd.of_base 163 rfl) rfl) (by kernel_rfl) (by decide) h ?_
  clear h
  intro a w h
  refine env_one (i := 23) (d := 165) (k := .val (.bool false)) (step_move (by kernel_rfl) (Opd.of_base 164 rfl) rfl) (by kernel_rfl) (by decide) h ?_
  clear h
  intro a w h
  refine env_guard (i := 24) (d := 166) (g := 23) (dg := 165) (b := false) (k := .val (.bool false)) (step_move (by kernel_rfl) (Opd.of_base 20 rfl) (by rw [b5]; rfl)) (by kernel_rfl) (by decide) (by kernel_rfl) (by decide) rfl h ?_
  clear h
  intro a w h
  refine env_guard (i := 25) (d := 167) (g := 23) (dg := 165) (b := false) (k := .val (.bool true)) (step_not (by kernel_rfl) (Opd.of_base 166 rfl) rfl) (by kernel_rfl) (by decide) (by kernel_rfl) (by decide) rfl h ?_
  clear h
  intro a w h
  refine env_guard (i := 26) (d := 168) (g := 23) (dg := 165) (b := false) (k := .val (.bool true)) (step_move (by kernel_rfl) (Opd.of_base 167 rfl) rfl) (by kernel_rfl) (by decide) (by kernel_rfl) (by decide) rfl h ?_
  clear h
  intro a w h
  refine env_guard (i := 27) (d := 169) (g := 26) (dg := 168) (b := true) (k := .val (.int .i64 0)) (step_move (by kernel_rfl) (Opd.of_base 18 rfl) (by rw [Bl.char_zero b5]; rfl)) (by kernel_rfl) (by decide) (by kernel_rfl) (by decide) rfl h ?_
  clear h
  intro a w h
  refine env_guard (i := 28) (d := 170) (g := 26) (dg := 168) (b := true) (k := .val (.bool false)) (step_ne_int (m := 0) (n := 0) (by kernel_rfl) (Opd.of_base 169 rfl) (Opd.const _) (by simp) rfl) (by kernel_rfl) (by decide) (by kernel_rfl) (by decide) rfl h ?_
  clear h
  intro a w h
  refine env_guard (i := 29) (d := 171) (g := 23) (dg := 165) (b := false) (k := .val (.bool false)) (step_pick_yes (y := .const (.bool false)) (by kernel_rfl) (Opd.of_base 168 rfl) (Opd.of_base 170 rfl) rfl) (by kernel_rfl) (by decide) (by kernel_rfl) (by decide) rfl h ?_
  clear h
  intro a w h
  refine env_one (i := 30) (d := 172) (k := .val (.bool false)) (step_pick_no (x := .const (.bool true)) (by kernel_rfl) (Opd.of_base 165 rfl) (Opd.of_base 171 rfl) rfl) (by kernel_rfl) (by decide) h ?_
  clear h
  intro a w h
  refine env_one (i := 31) (d := 173) (k := .val (.bool false)) (step_move (by kernel_rfl) (Opd.of_base 172 rfl) rfl) (by kernel_rfl) (by decide) h ?_
  clear h
  intro a w h
  refine env_guard (i := 32) (d := 174) (g := 31) (dg := 173) (b := false) (k := .val (.bool false)) (step_move (by kernel_rfl) (Opd.of_base 23 rfl) (by rw [b6]; rfl)) (by kernel_rfl) (by decide) (by kernel_rfl) (by decide) rfl h ?_
  clear h
  intro a w h
  refine env_guard (i := 33) (d := 175) (g := 31) (dg := 173) (b := false) (k := .val (.bool true)) (step_not (by kernel_rfl) (Opd.of_base 174 rfl) rfl) (by kernel_rfl) (by decide) (by kernel_rfl) (by decide) rfl h ?_
  clear h
  intro a w h
  refine env_guard (i := 34) (d := 176) (g := 31) (dg := 173) (b := false) (k := .val (.bool true)) (step_move (by kernel_rfl) (Opd.of_base 175 rfl) rfl) (by kernel_rfl) (by decide) (by kernel_rfl) (by decide) rfl h ?_
  clear h
  intro a w h
  refine env_guard (i := 35) (d := 177) (g := 34) (dg := 176) (b := true) (k := .val (.int .i64 0)) (step_move (by kernel_rfl) (Opd.of_base 21 rfl) (by rw [Bl.code_zero b6]; rfl)) (by kernel_rfl) (by decide) (by kernel_rfl) (by decide) rfl h ?_
  clear h
  intro a w h
  refine env_guard (i := 36) (d := 178) (g := 34) (dg := 176) (b := true) (k := .val (.bool false)) (step_ne_int (m := 0) (n := 0) (by kernel_rfl) (Opd.of_base 177 rfl) (Opd.const _) (by simp) rfl) (by kernel_rfl) (by decide) (by kernel_rfl) (by decide) rfl h ?_
  clear h
  intro a w h
  refine env_guard (i := 37) (d := 179) (g := 31) (dg := 173) (b := false) (k := .val (.bool false)) (step_pick_yes (y := .const (.bool false)) (by kernel_rfl) (Opd.of_base 176 rfl) (Opd.of_base 178 rfl) rfl) (by kernel_rfl) (by decide) (by kernel_rfl) (by decide) rfl h ?_
  clear h
  intro a w h
  refine env_one (i := 38) (d := 180) (k := .val (.bool false)) (step_pick_no (x := .const (.bool true)) (by kernel_rfl) (Opd.of_base 173 rfl) (Opd.of_base 179 rfl) rfl) (by kernel_rfl) (by decide) h ?_
  clear h
  intro a w h
  refine env_one (i := 39) (d := 181) (k := .val (.bool false)) (step_move (by kernel_rfl) (Opd.of_base 180 rfl) rfl) (by kernel_rfl) (by decide) h ?_
  clear h
  intro a w h
  refine env_guard (i := 40) (d := 182) (g := 39) (dg := 181) (b := false) (k := .val (.bool true)) (step_move (by kernel_rfl) (Opd.of_base 27 rfl) (by rw [b7]; rfl)) (by kernel_rfl) (by decide) (by kernel_rfl) (by decide) rfl h ?_
  clear h
  intro a w h
  refine env_guard (i := 41) (d := 183) (g := 39) (dg := 181) (b := false) (k := .val (.bool false)) (step_not (by kernel_rfl) (Opd.of_base 182 rfl) rfl) (by kernel_rfl) (by decide) (by kernel_rfl) (by decide) rfl h ?_
  clear h
  intro a w h
  refine env_guard (i := 42) (d := 184) (g := 39) (dg := 181) (b := false) (k := .val (.bool false)) (step_move (by kernel_rfl) (Opd.of_base 183 rfl) rfl) (by kernel_rfl) (by decide) (by kernel_rfl) (by decide) rfl h ?_
  clear h
  intro a w h
  refine env_skip (i := 43) (d := 185) (g := 42) (dg := 184) (b := true) (by kernel_rfl) (by decide) (by kernel_rfl) rfl rfl h ?_
  clear h
  intro a w h
  refine env_skip (i := 44) (d := 186) (g := 42) (dg := 184) (b := true) (by kernel_rfl) (by decide) (by kernel_rfl) rfl rfl h ?_
  clear h
  intro a w h
  refine env_guard (i := 45) (d := 187) (g := 39) (dg := 181) (b := false) (k := .val (.bool false)) (step_pick_no (x := .tmp 186) (by kernel_rfl) (Opd.of_base 184 rfl) (Opd.const _) rfl) (by kernel_rfl) (by decide) (by kernel_rfl) (by decide) rfl h ?_
  clear h
  intro a w h
  refine env_one (i := 46) (d := 188) (k := .val (.bool false)) (step_pick_no (x := .const (.bool true)) (by kernel_rfl) (Opd.of_base 181 rfl) (Opd.of_base 187 rfl) rfl) (by kernel_rfl) (by decide) h ?_
  clear h
  intro a w h
  exact hQ a w (h.keep [1, 2, 3, 990, 5, 7, 8, 10, 12, 14, 18, 20, 21, 23, 28, 188])
theorem lChecks20e_region {Q : Exit → Act → World → Prop} (p0 : Pay) (l0 : Fo) (s : Nat) (s2 : Nat) (b0 : (Bl.atom p0 l0).2.2 = true) (b1 : (Bl.int p0 l0).2.2 = false) (b4 : (Bl.list p0 l0).2.2 = false) (b5 : (Bl.char p0 l0).2.2 = false) (b6 : (Bl.code p0 l0).2.2 = false) (b7 : (Bl.ind p0 l0).2.2.2 = false) {w0 : World} {a : Act} {w : World} (h : Hold 275 [(1, .sat (oP s p0 l0)), (2, .val (.bool false)), (3, .sat (aB (s2 + 1) (Bl.bs p0 l0))), (990, .sat (gP (s2 + 1) none)), (5, .val (.string (Bl.atom p0 l0).1)), (7, .val (.bool ((Bl.atom p0 l0).2.2))), (8, .val (.int .i64 (Bl.int p0 l0).1)), (10, .val (.bool ((Bl.int p0 l0).2.2))), (12, .val (.bool ((Bl.callable p0 l0).2))), (14, .val (.bool ((Bl.atomic p0 l0).2))), (15, .sat (nR (s2 + 1) none ((Bl.list p0 l0).1))), (17, .val (.bool ((Bl.list p0 l0).2.2))), (18, .val (.int .i64 (Bl.char p0 l0).1)), (20, .val (.bool ((Bl.char p0 l0).2.2))), (21, .val (.int .i64 (Bl.code p0 l0).1)), (23, .val (.bool ((Bl.code p0 l0).2.2))), (25, .val (.int .i64 (Bl.ind p0 l0).2.1)), (27, .val (.bool ((Bl.ind p0 l0).2.2.2))), (28, .val (.bool (Tm.validB p0 l0)))] w0 a w)
    (hQ : ∀ a' w', Hold 275 [(1, .sat (oP s p0 l0)), (2, .val (.bool false)), (3, .sat (aB (s2 + 1) (Bl.bs p0 l0))), (990, .sat (gP (s2 + 1) none)), (5, .val (.string (Bl.atom p0 l0).1)), (7, .val (.bool ((Bl.atom p0 l0).2.2))), (8, .val (.int .i64 (Bl.int p0 l0).1)), (10, .val (.bool ((Bl.int p0 l0).2.2))), (12, .val (.bool ((Bl.callable p0 l0).2))), (14, .val (.bool ((Bl.atomic p0 l0).2))), (18, .val (.int .i64 (Bl.char p0 l0).1)), (20, .val (.bool ((Bl.char p0 l0).2.2))), (21, .val (.int .i64 (Bl.code p0 l0).1)), (23, .val (.bool ((Bl.code p0 l0).2.2))), (28, .val (.bool (Tm.validB p0 l0))), (188, .val (.bool false))] w0 a' w' → Q .normal a' w') : (Code.region 20 lChecks20Ops false).wp Try.prog Q a w := by
  refine region_seq (w0 := w) 47 (by kernel_rfl) ?_
  rw [show List.range 47 = [0, 1, 2, 3, 4, 5, 6, 7, 8, 9, 10, 11, 12, 13, 14, 15, 16, 17, 18, 19, 20, 21, 22, 23, 24, 25, 26, 27, 28, 29, 30, 31, 32, 33, 34, 35, 36, 37, 38, 39, 40, 41, 42, 43, 44, 45, 46] from rfl]
  refine env_one (i := 0) (d := 142) (k := .val (.bool true)) (step_move (by kernel_rfl) (Opd.of_base 7 rfl) (by rw [b0]; rfl)) (by kernel_rfl) (by decide) h ?_
  clear h
  intro a w h
  refine env_one (i := 1) (d := 143) (k := .val (.bool false)) (step_not (by kernel_rfl) (Opd.of_base 142 rfl) rfl) (by kernel_rfl) (by decide) h ?_
  clear h
  intro a w h
  refine env_one (i := 2) (d := 144) (k := .val (.bool false)) (step_move (by kernel_rfl) (Opd.of_base 143 rfl) rfl) (by kernel_rfl) (by decide) h ?_
  clear h
  intro a w h
  refine env_skip (i := 3) (d := 145) (g := 2) (dg := 144) (b := true) (by kernel_rfl) (by decide) (by kernel_rfl) rfl rfl h ?_
  clear h
  intro a w h
  refine env_skip (i := 4) (d := 146) (g := 2) (dg := 144) (b := true) (by kernel_rfl) (by decide) (by kernel_rfl) rfl rfl h ?_
  clear h
  intro a w h
  refine env_one (i := 5) (d := 147) (k := .val (.bool false)) (step_pick_no (x := .tmp 146) (by kernel_rfl) (Opd.of_base 144 rfl) (Opd.const _) rfl) (by kernel_rfl) (by decide) h ?_
  clear h
  intro a w h
  refine env_one (i := 6) (d := 148) (k := .val (.bool false)) (step_move (by kernel_rfl) (Opd.of_base 147 rfl) rfl) (by kernel_rfl) (by decide) h ?_
  clear h
  intro a w h
  refine env_guard (i := 7) (d := 149) (g := 6) (dg := 148) (b := false) (k := .val (.bool false)) (step_move (by kernel_rfl) (Opd.of_base 10 rfl) (by rw [b1]; rfl)) (by kernel_rfl) (by decide) (by kernel_rfl) (by decide) rfl h ?_
  clear h
  intro a w h
  refine env_guard (i := 8) (d := 150) (g := 6) (dg := 148) (b := false) (k := .val (.bool true)) (step_not (by kernel_rfl) (Opd.of_base 149 rfl) rfl) (by kernel_rfl) (by decide) (by kernel_rfl) (by decide) rfl h ?_
  clear h
  intro a w h
  refine env_guard (i := 9) (d := 151) (g := 6) (dg := 148) (b := false) (k := .val (.bool true)) (step_move (by kernel_rfl) (Opd.of_base 150 rfl) rfl) (by kernel_rfl) (by decide) (by kernel_rfl) (by decide) rfl h ?_
  clear h
  intro a w h
  refine env_guard (i := 10) (d := 152) (g := 9) (dg := 151) (b := true) (k := .val (.int .i64 0)) (step_move (by kernel_rfl) (Opd.of_base 8 rfl) (by rw [Bl.int_zero b1]; rfl)) (by kernel_rfl) (by decide) (by kernel_rfl) (by decide) rfl h ?_
  clear h
  intro a w h
  refine env_guard (i := 11) (d := 153) (g := 9) (dg := 151) (b := true) (k := .val (.bool false)) (step_ne_int64 (m := 0) (n := 0) (by kernel_rfl) (Opd.of_base 152 rfl) (Opd.const _) (by simp) rfl) (by kernel_rfl) (by decide) (by kernel_rfl) (by decide) rfl h ?_
  clear h
  intro a w h
  refine env_guard (i := 12) (d := 154) (g := 6) (dg := 148) (b := false) (k := .val (.bool false)) (step_pick_yes (y := .const (.bool false)) (by kernel_rfl) (Opd.of_base 151 rfl) (Opd.of_base 153 rfl) rfl) (by kernel_rfl) (by decide) (by kernel_rfl) (by decide) rfl h ?_
  clear h
  intro a w h
  refine env_one (i := 13) (d := 155) (k := .val (.bool false)) (step_pick_no (x := .const (.bool true)) (by kernel_rfl) (Opd.of_base 148 rfl) (Opd.of_base 154 rfl) rfl) (by kernel_rfl) (by decide) h ?_
  clear h
  intro a w h
  refine env_one (i := 14) (d := 156) (k := .val (.bool false)) (step_move (by kernel_rfl) (Opd.of_base 155 rfl) rfl) (by kernel_rfl) (by decide) h ?_
  clear h
  intro a w h
  refine env_guard (i := 15) (d := 157) (g := 14) (dg := 156) (b := false) (k := .val (.bool false)) (step_move (by kernel_rfl) (Opd.of_base 17 rfl) (by rw [b4]; rfl)) (by kernel_rfl) (by decide) (by kernel_rfl) (by decide) rfl h ?_
  clear h
  intro a w h
  refine env_guard (i := 16) (d := 158) (g := 14) (dg := 156) (b := false) (k := .val (.bool true)) (step_not (by kernel_rfl) (Opd.of_base 157 rfl) rfl) (by kernel_rfl) (by decide) (by kernel_rfl) (by decide) rfl h ?_
  clear h
  intro a w h
  refine env_guard (i := 17) (d := 159) (g := 14) (dg := 156) (b := false) (k := .val (.bool true)) (step_move (by kernel_rfl) (Opd.of_base 158 rfl) rfl) (by kernel_rfl) (by decide) (by kernel_rfl) (by decide) rfl h ?_
  clear h
  intro a w h
  refine env_guard (i := 18) (d := 160) (g := 17) (dg := 159) (b := true) (k := .sat (nR (s2 + 1) none .nil)) (step_move (by kernel_rfl) (Opd.of_base 15 rfl) (by rw [Bl.list_zero b4]; rfl)) (by kernel_rfl) (by decide) (by kernel_rfl) (by decide) rfl h ?_
  clear h
  intro a w h
  refine env_guard (i := 19) (d := 161) (g := 17) (dg := 159) (b := true) (k := .val (.int .i64 ((Tm.len .nil : Nat) : Int))) (step_len_row (by kernel_rfl) (Opd.ofR (Opd.of_base 160 rfl)) rfl) (by kernel_rfl) (by decide) (by kernel_rfl) (by decide) rfl h ?_
  clear h
  intro a w h
  refine env_guard (i := 20) (d := 162) (g := 17) (dg := 159) (b := true) (k := .val (.bool false)) (step_ne_int (m := ((Tm.len .nil : Nat) : Int)) (n := 0) (by kernel_rfl) (Opd.of_base 161 rfl) (Opd.const _) rfl rfl) (by kernel_rfl) (by decide) (by kernel_rfl) (by decide) rfl h ?_
  clear h
  intro a w h
  refine env_guard (i := 21) (d := 163) (g := 14) (dg := 156) (b := false) (k := .val (.bool false)) (step_pick_yes (y := .const (.bool false)) (by kernel_rfl) (Opd.of_base 159 rfl) (Opd.of_base 162 rfl) rfl) (by kernel_rfl) (by decide) (by kernel_rfl) (by decide) rfl h ?_
  clear h
  intro a w h
  refine env_one (i := 22) (d := 164) (k := .val (.bool false)) (step_pick_no (x := .const (.bool true)) (by kernel_rfl) (Opd.of_base 156 rfl) (Opd.of_base 163 rfl) rfl) (by kernel_rfl) (by decide) h ?_
  clear h
  intro a w h
  refine env_one (i := 23) (d := 165) (k := .val (.bool false)) (step_move (by kernel_rfl) (Opd.of_base 164 rfl) rfl) (by kernel_rfl) (by decide) h ?_
  clear h
  intro a w h
  refine env_guard (i := 24) (d := 166) (g := 23) (dg := 165) (b := false) (k := .val (.bool false)) (step_move (by kernel_rfl) (Opd.of_base 20 rfl) (by rw [b5]; rfl)) (by kernel_rfl) (by decide) (by kernel_rfl) (by decide) rfl h ?_
  clear h
  intro a w h
  refine env_guard (i := 25) (d := 167) (g := 23) (dg := 165) (b := false) (k := .val (.bool true)) (step_not (by kernel_rfl) (Opd.of_base 166 rfl) rfl) (by kernel_rfl) (by decide) (by kernel_rfl) (by decide) rfl h ?_
  clear h
  intro a w h
  refine env_guard (i := 26) (d := 168) (g := 23) (dg := 165) (b := false) (k := .val (.bool true)) (step_move (by kernel_rfl) (Opd.of_base 167 rfl) rfl) (by kernel_rfl) (by decide) (by kernel_rfl) (by decide) rfl h ?_
  clear h
  intro a w h
  refine env_guard (i := 27) (d := 169) (g := 26) (dg := 168) (b := true) (k := .val (.int .i64 0)) (step_move (by kernel_rfl) (Opd.of_base 18 rfl) (by rw [Bl.char_zero b5]; rfl)) (by kernel_rfl) (by decide) (by kernel_rfl) (by decide) rfl h ?_
  clear h
  intro a w h
  refine env_guard (i := 28) (d := 170) (g := 26) (dg := 168) (b := true) (k := .val (.bool false)) (step_ne_int (m := 0) (n := 0) (by kernel_rfl) (Opd.of_base 169 rfl) (Opd.const _) (by simp) rfl) (by kernel_rfl) (by decide) (by kernel_rfl) (by decide) rfl h ?_
  clear h
  intro a w h
  refine env_guard (i := 29) (d := 171) (g := 23) (dg := 165) (b := false) (k := .val (.bool false)) (step_pick_yes (y := .const (.bool false)) (by kernel_rfl) (Opd.of_base 168 rfl) (Opd.of_base 170 rfl) rfl) (by kernel_rfl) (by decide) (by kernel_rfl) (by decide) rfl h ?_
  clear h
  intro a w h
  refine env_one (i := 30) (d := 172) (k := .val (.bool false)) (step_pick_no (x := .const (.bool true)) (by kernel_rfl) (Opd.of_base 165 rfl) (Opd.of_base 171 rfl) rfl) (by kernel_rfl) (by decide) h ?_
  clear h
  intro a w h
  refine env_one (i := 31) (d := 173) (k := .val (.bool false)) (step_move (by kernel_rfl) (Opd.of_base 172 rfl) rfl) (by kernel_rfl) (by decide) h ?_
  clear h
  intro a w h
  refine env_guard (i := 32) (d := 174) (g := 31) (dg := 173) (b := false) (k := .val (.bool false)) (step_move (by kernel_rfl) (Opd.of_base 23 rfl) (by rw [b6]; rfl)) (by kernel_rfl) (by decide) (by kernel_rfl) (by decide) rfl h ?_
  clear h
  intro a w h
  refine env_guard (i := 33) (d := 175) (g := 31) (dg := 173) (b := false) (k := .val (.bool true)) (step_not (by kernel_rfl) (Opd.of_base 174 rfl) rfl) (by kernel_rfl) (by decide) (by kernel_rfl) (by decide) rfl h ?_
  clear h
  intro a w h
  refine env_guard (i := 34) (d := 176) (g := 31) (dg := 173) (b := false) (k := .val (.bool true)) (step_move (by kernel_rfl) (Opd.of_base 175 rfl) rfl) (by kernel_rfl) (by decide) (by kernel_rfl) (by decide) rfl h ?_
  clear h
  intro a w h
  refine env_guard (i := 35) (d := 177) (g := 34) (dg := 176) (b := true) (k := .val (.int .i64 0)) (step_move (by kernel_rfl) (Opd.of_base 21 rfl) (by rw [Bl.code_zero b6]; rfl)) (by kernel_rfl) (by decide) (by kernel_rfl) (by decide) rfl h ?_
  clear h
  intro a w h
  refine env_guard (i := 36) (d := 178) (g := 34) (dg := 176) (b := true) (k := .val (.bool false)) (step_ne_int (m := 0) (n := 0) (by kernel_rfl) (Opd.of_base 177 rfl) (Opd.const _) (by simp) rfl) (by kernel_rfl) (by decide) (by kernel_rfl) (by decide) rfl h ?_
  clear h
  intro a w h
  refine env_guard (i := 37) (d := 179) (g := 31) (dg := 173) (b := false) (k := .val (.bool false)) (step_pick_yes (y := .const (.bool false)) (by kernel_rfl) (Opd.of_base 176 rfl) (Opd.of_base 178 rfl) rfl) (by kernel_rfl) (by decide) (by kernel_rfl) (by decide) rfl h ?_
  clear h
  intro a w h
  refine env_one (i := 38) (d := 180) (k := .val (.bool false)) (step_pick_no (x := .const (.bool true)) (by kernel_rfl) (Opd.of_base 173 rfl) (Opd.of_base 179 rfl) rfl) (by kernel_rfl) (by decide) h ?_
  clear h
  intro a w h
  refine env_one (i := 39) (d := 181) (k := .val (.bool false)) (step_move (by kernel_rfl) (Opd.of_base 180 rfl) rfl) (by kernel_rfl) (by decide) h ?_
  clear h
  intro a w h
  refine env_guard (i := 40) (d := 182) (g := 39) (dg := 181) (b := false) (k := .val (.bool false)) (step_move (by kernel_rfl) (Opd.of_base 27 rfl) (by rw [b7]; rfl)) (by kernel_rfl) (by decide) (by kernel_rfl) (by decide) rfl h ?_
  clear h
  intro a w h
  refine env_guard (i := 41) (d := 183) (g := 39) (dg := 181) (b := false) (k := .val (.bool true)) (step_not (by kernel_rfl) (Opd.of_base 182 rfl) rfl) (by kernel_rfl) (by decide) (by kernel_rfl) (by decide) rfl h ?_
  clear h
  intro a w h
  refine env_guard (i := 42) (d := 184) (g := 39) (dg := 181) (b := false) (k := .val (.bool true)) (step_move (by kernel_rfl) (Opd.of_base 183 rfl) rfl) (by kernel_rfl) (by decide) (by kernel_rfl) (by decide) rfl h ?_
  clear h
  intro a w h
  refine env_guard (i := 43) (d := 185) (g := 42) (dg := 184) (b := true) (k := .val (.int .i64 0)) (step_move (by kernel_rfl) (Opd.of_base 25 rfl) (by rw [Bl.ind_zero b7]; rfl)) (by kernel_rfl) (by decide) (by kernel_rfl) (by decide) rfl h ?_
  clear h
  intro a w h
  refine env_guard (i := 44) (d := 186) (g := 42) (dg := 184) (b := true) (k := .val (.bool false)) (step_ne_int (m := 0) (n := 0) (by kernel_rfl) (Opd.of_base 185 rfl) (Opd.const _) (by simp) rfl) (by kernel_rfl) (by decide) (by kernel_rfl) (by decide) rfl h ?_
  clear h
  intro a w h
  refine env_guard (i := 45) (d := 187) (g := 39) (dg := 181) (b := false) (k := .val (.bool false)) (step_pick_yes (y := .const (.bool false)) (by kernel_rfl) (Opd.of_base 184 rfl) (Opd.of_base 186 rfl) rfl) (by kernel_rfl) (by decide) (by kernel_rfl) (by decide) rfl h ?_
  clear h
  intro a w h
  refine env_one (i := 46) (d := 188) (k := .val (.bool false)) (step_pick_no (x := .const (.bool true)) (by kernel_rfl) (Opd.of_base 181 rfl) (Opd.of_base 187 rfl) rfl) (by kernel_rfl) (by decide) h ?_
  clear h
  intro a w h
  exact hQ a w (h.keep [1, 2, 3, 990, 5, 7, 8, 10, 12, 14, 18, 20, 21, 23, 28, 188])
theorem lChecks20f_region {Q : Exit → Act → World → Prop} (p0 : Pay) (l0 : Fo) (s : Nat) (s2 : Nat) (b0 : (Bl.atom p0 l0).2.2 = true) (b1 : (Bl.int p0 l0).2.2 = false) (b4 : (Bl.list p0 l0).2.2 = false) (b5 : (Bl.char p0 l0).2.2 = true) (b6 : (Bl.code p0 l0).2.2 = false) (b7 : (Bl.ind p0 l0).2.2.2 = false) {w0 : World} {a : Act} {w : World} (h : Hold 275 [(1, .sat (oP s p0 l0)), (2, .val (.bool false)), (3, .sat (aB (s2 + 1) (Bl.bs p0 l0))), (990, .sat (gP (s2 + 1) none)), (5, .val (.string (Bl.atom p0 l0).1)), (7, .val (.bool ((Bl.atom p0 l0).2.2))), (8, .val (.int .i64 (Bl.int p0 l0).1)), (10, .val (.bool ((Bl.int p0 l0).2.2))), (12, .val (.bool ((Bl.callable p0 l0).2))), (14, .val (.bool ((Bl.atomic p0 l0).2))), (15, .sat (nR (s2 + 1) none ((Bl.list p0 l0).1))), (17, .val (.bool ((Bl.list p0 l0).2.2))), (18, .val (.int .i64 (Bl.char p0 l0).1)), (20, .val (.bool ((Bl.char p0 l0).2.2))), (21, .val (.int .i64 (Bl.code p0 l0).1)), (23, .val (.bool ((Bl.code p0 l0).2.2))), (25, .val (.int .i64 (Bl.ind p0 l0).2.1)), (27, .val (.bool ((Bl.ind p0 l0).2.2.2))), (28, .val (.bool (Tm.validB p0 l0)))] w0 a w)
    (hQ : ∀ a' w', Hold 275 [(1, .sat (oP s p0 l0)), (2, .val (.bool false)), (3, .sat (aB (s2 + 1) (Bl.bs p0 l0))), (990, .sat (gP (s2 + 1) none)), (5, .val (.string (Bl.atom p0 l0).1)), (7, .val (.bool ((Bl.atom p0 l0).2.2))), (8, .val (.int .i64 (Bl.int p0 l0).1)), (10, .val (.bool ((Bl.int p0 l0).2.2))), (12, .val (.bool ((Bl.callable p0 l0).2))), (14, .val (.bool ((Bl.atomic p0 l0).2))), (18, .val (.int .i64 (Bl.char p0 l0).1)), (20, .val (.bool ((Bl.char p0 l0).2.2))), (21, .val (.int .i64 (Bl.code p0 l0).1)), (23, .val (.bool ((Bl.code p0 l0).2.2))), (28, .val (.bool (Tm.validB p0 l0))), (188, .val (.bool false))] w0 a' w' → Q .normal a' w') : (Code.region 20 lChecks20Ops false).wp Try.prog Q a w := by
  refine region_seq (w0 := w) 47 (by kernel_rfl) ?_
  rw [show List.range 47 = [0, 1, 2, 3, 4, 5, 6, 7, 8, 9, 10, 11, 12, 13, 14, 15, 16, 17, 18, 19, 20, 21, 22, 23, 24, 25, 26, 27, 28, 29, 30, 31, 32, 33, 34, 35, 36, 37, 38, 39, 40, 41, 42, 43, 44, 45, 46] from rfl]
  refine env_one (i := 0) (d := 142) (k := .val (.bool true)) (step_move (by kernel_rfl) (Opd.of_base 7 rfl) (by rw [b0]; rfl)) (by kernel_rfl) (by decide) h ?_
  clear h
  intro a w h
  refine env_one (i := 1) (d := 143) (k := .val (.bool false)) (step_not (by kernel_rfl) (Opd.of_base 142 rfl) rfl) (by kernel_rfl) (by decide) h ?_
  clear h
  intro a w h
  refine env_one (i := 2) (d := 144) (k := .val (.bool false)) (step_move (by kernel_rfl) (Opd.of_base 143 rfl) rfl) (by kernel_rfl) (by decide) h ?_
  clear h
  intro a w h
  refine env_skip (i := 3) (d := 145) (g := 2) (dg := 144) (b := true) (by kernel_rfl) (by decide) (by kernel_rfl) rfl rfl h ?_
  clear h
  intro a w h
  refine env_skip (i := 4) (d := 146) (g := 2) (dg := 144) (b := true) (by kernel_rfl) (by decide) (by kernel_rfl) rfl rfl h ?_
  clear h
  intro a w h
  refine env_one (i := 5) (d := 147) (k := .val (.bool false)) (step_pick_no (x := .tmp 146) (by kernel_rfl) (Opd.of_base 144 rfl) (Opd.const _) rfl) (by kernel_rfl) (by decide) h ?_
  clear h
  intro a w h
  refine env_one (i := 6) (d := 148) (k := .val (.bool false)) (step_move (by kernel_rfl) (Opd.of_base 147 rfl) rfl) (by kernel_rfl) (by decide) h ?_
  clear h
  intro a w h
  refine env_guard (i := 7) (d := 149) (g := 6) (dg := 148) (b := false) (k := .val (.bool false)) (step_move (by kernel_rfl) (Opd.of_base 10 rfl) (by rw [b1]; rfl)) (by kernel_rfl) (by decide) (by kernel_rfl) (by decide) rfl h ?_
  clear h
  intro a w h
  refine env_guard (i := 8) (d := 150) (g := 6) (dg := 148) (b := false) (k := .val (.bool true)) (step_not (by kernel_rfl) (Opd.of_base 149 rfl) rfl) (by kernel_rfl) (by decide) (by kernel_rfl) (by decide) rfl h ?_
  clear h
  intro a w h
  refine env_guard (i := 9) (d := 151) (g := 6) (dg := 148) (b := false) (k := .val (.bool true)) (step_move (by kernel_rfl) (Opd.of_base 150 rfl) rfl) (by kernel_rfl) (by decide) (by kernel_rfl) (by decide) rfl h ?_
  clear h
  intro a w h
  refine env_guard (i := 10) (d := 152) (g := 9) (dg := 151) (b := true) (k := .val (.int .i64 0)) (step_move (by kernel_rfl) (Opd.of_base 8 rfl) (by rw [Bl.int_zero b1]; rfl)) (by kernel_rfl) (by decide) (by kernel_rfl) (by decide) rfl h ?_
  clear h
  intro a w h
  refine env_guard (i := 11) (d := 153) (g := 9) (dg := 151) (b := true) (k := .val (.bool false)) (step_ne_int64 (m := 0) (n := 0) (by kernel_rfl) (Opd.of_base 152 rfl) (Opd.const _) (by simp) rfl) (by kernel_rfl) (by decide) (by kernel_rfl) (by decide) rfl h ?_
  clear h
  intro a w h
  refine env_guard (i := 12) (d := 154) (g := 6) (dg := 148) (b := false) (k := .val (.bool false)) (step_pick_yes (y := .const (.bool false)) (by kernel_rfl) (Opd.of_base 151 rfl) (Opd.of_base 153 rfl) rfl) (by kernel_rfl) (by decide) (by kernel_rfl) (by decide) rfl h ?_
  clear h
  intro a w h
  refine env_one (i := 13) (d := 155) (k := .val (.bool false)) (step_pick_no (x := .const (.bool true)) (by kernel_rfl) (Opd.of_base 148 rfl) (Opd.of_base 154 rfl) rfl) (by kernel_rfl) (by decide) h ?_
  clear h
  intro a w h
  refine env_one (i := 14) (d := 156) (k := .val (.bool false)) (step_move (by kernel_rfl) (Opd.of_base 155 rfl) rfl) (by kernel_rfl) (by decide) h ?_
  clear h
  intro a w h
  refine env_guard (i := 15) (d := 157) (g := 14) (dg := 156) (b := false) (k := .val (.bool false)) (step_move (by kernel_rfl) (Opd.of_base 17 rfl) (by rw [b4]; rfl)) (by kernel_rfl) (by decide) (by kernel_rfl) (by decide) rfl h ?_
  clear h
  intro a w h
  refine env_guard (i := 16) (d := 158) (g := 14) (dg := 156) (b := false) (k := .val (.bool true)) (step_not (by kernel_rfl) (Opd.of_base 157 rfl) rfl) (by kernel_rfl) (by decide) (by kernel_rfl) (by decide) rfl h ?_
  clear h
  intro a w h
  refine env_guard (i := 17) (d := 159) (g := 14) (dg := 156) (b := false) (k := .val (.bool true)) (step_move (by kernel_rfl) (Opd.of_base 158 rfl) rfl) (by kernel_rfl) (by decide) (by kernel_rfl) (by decide) rfl h ?_
  clear h
  intro a w h
  refine env_guard (i := 18) (d := 160) (g := 17) (dg := 159) (b := true) (k := .sat (nR (s2 + 1) none .nil)) (step_move (by kernel_rfl) (Opd.of_base 15 rfl) (by rw [Bl.list_zero b4]; rfl)) (by kernel_rfl) (by decide) (by kernel_rfl) (by decide) rfl h ?_
  clear h
  intro a w h
  refine env_guard (i := 19) (d := 161) (g := 17) (dg := 159) (b := true) (k := .val (.int .i64 ((Tm.len .nil : Nat) : Int))) (step_len_row (by kernel_rfl) (Opd.ofR (Opd.of_base 160 rfl)) rfl) (by kernel_rfl) (by decide) (by kernel_rfl) (by decide) rfl h ?_
  clear h
  intro a w h
  refine env_guard (i := 20) (d := 162) (g := 17) (dg := 159) (b := true) (k := .val (.bool false)) (step_ne_int (m := ((Tm.len .nil : Nat) : Int)) (n := 0) (by kernel_rfl) (Opd.of_base 161 rfl) (Opd.const _) rfl rfl) (by kernel_rfl) (by decide) (by kernel_rfl) (by decide) rfl h ?_
  clear h
  intro a w h
  refine env_guard (i := 21) (d := 163) (g := 14) (dg := 156) (b := false) (k := .val (.bool false)) (step_pick_yes (y := .const (.bool false)) (by kernel_rfl) (Opd.of_base 159 rfl) (Opd.of_base 162 rfl) rfl) (by kernel_rfl) (by decide) (by kernel_rfl) (by decide) rfl h ?_
  clear h
  intro a w h
  refine env_one (i := 22) (d := 164) (k := .val (.bool false)) (step_pick_no (x := .const (.bool true)) (by kernel_rfl) (Opd.of_base 156 rfl) (Opd.of_base 163 rfl) rfl) (by kernel_rfl) (by decide) h ?_
  clear h
  intro a w h
  refine env_one (i := 23) (d := 165) (k := .val (.bool false)) (step_move (by kernel_rfl) (Opd.of_base 164 rfl) rfl) (by kernel_rfl) (by decide) h ?_
  clear h
  intro a w h
  refine env_guard (i := 24) (d := 166) (g := 23) (dg := 165) (b := false) (k := .val (.bool true)) (step_move (by kernel_rfl) (Opd.of_base 20 rfl) (by rw [b5]; rfl)) (by kernel_rfl) (by decide) (by kernel_rfl) (by decide) rfl h ?_
  clear h
  intro a w h
  refine env_guard (i := 25) (d := 167) (g := 23) (dg := 165) (b := false) (k := .val (.bool false)) (step_not (by kernel_rfl) (Opd.of_base 166 rfl) rfl) (by kernel_rfl) (by decide) (by kernel_rfl) (by decide) rfl h ?_
  clear h
  intro a w h
  refine env_guard (i := 26) (d := 168) (g := 23) (dg := 165) (b := false) (k := .val (.bool false)) (step_move (by kernel_rfl) (Opd.of_base 167 rfl) rfl) (by kernel_rfl) (by decide) (by kernel_rfl) (by decide) rfl h ?_
  clear h
  intro a w h
  refine env_skip (i := 27) (d := 169) (g := 26) (dg := 168) (b := true) (by kernel_rfl) (by decide) (by kernel_rfl) rfl rfl h ?_
  clear h
  intro a w h
  refine env_skip (i := 28) (d := 170) (g := 26) (dg := 168) (b := true) (by kernel_rfl) (by decide) (by kernel_rfl) rfl rfl h ?_
  clear h
  intro a w h
  refine env_guard (i := 29) (d := 171) (g := 23) (dg := 165) (b := false) (k := .val (.bool false)) (step_pick_no (x := .tmp 170) (by kernel_rfl) (Opd.of_base 168 rfl) (Opd.const _) rfl) (by kernel_rfl) (by decide) (by kernel_rfl) (by decide) rfl h ?_
  clear h
  intro a w h
  refine env_one (i := 30) (d := 172) (k := .val (.bool false)) (step_pick_no (x := .const (.bool true)) (by kernel_rfl) (Opd.of_base 165 rfl) (Opd.of_base 171 rfl) rfl) (by kernel_rfl) (by decide) h ?_
  clear h
  intro a w h
  refine env_one (i := 31) (d := 173) (k := .val (.bool false)) (step_move (by kernel_rfl) (Opd.of_base 172 rfl) rfl) (by kernel_rfl) (by decide) h ?_
  clear h
  intro a w h
  refine env_guard (i := 32) (d := 174) (g := 31) (dg := 173) (b := false) (k := .val (.bool false)) (step_move (by kernel_rfl) (Opd.of_base 23 rfl) (by rw [b6]; rfl)) (by kernel_rfl) (by decide) (by kernel_rfl) (by decide) rfl h ?_
  clear h
  intro a w h
  refine env_guard (i := 33) (d := 175) (g := 31) (dg := 173) (b := false) (k := .val (.bool true)) (step_not (by kernel_rfl) (Opd.of_base 174 rfl) rfl) (by kernel_rfl) (by decide) (by kernel_rfl) (by decide) rfl h ?_
  clear h
  intro a w h
  refine env_guard (i := 34) (d := 176) (g := 31) (dg := 173) (b := false) (k := .val (.bool true)) (step_move (by kernel_rfl) (Opd.of_base 175 rfl) rfl) (by kernel_rfl) (by decide) (by kernel_rfl) (by decide) rfl h ?_
  clear h
  intro a w h
  refine env_guard (i := 35) (d := 177) (g := 34) (dg := 176) (b := true) (k := .val (.int .i64 0)) (step_move (by kernel_rfl) (Opd.of_base 21 rfl) (by rw [Bl.code_zero b6]; rfl)) (by kernel_rfl) (by decide) (by kernel_rfl) (by decide) rfl h ?_
  clear h
  intro a w h
  refine env_guard (i := 36) (d := 178) (g := 34) (dg := 176) (b := true) (k := .val (.bool false)) (step_ne_int (m := 0) (n := 0) (by kernel_rfl) (Opd.of_base 177 rfl) (Opd.const _) (by simp) rfl) (by kernel_rfl) (by decide) (by kernel_rfl) (by decide) rfl h ?_
  clear h
  intro a w h
  refine env_guard (i := 37) (d := 179) (g := 31) (dg := 173) (b := false) (k := .val (.bool false)) (step_pick_yes (y := .const (.bool false)) (by kernel_rfl) (Opd.of_base 176 rfl) (Opd.of_base 178 rfl) rfl) (by kernel_rfl) (by decide) (by kernel_rfl) (by decide) rfl h ?_
  clear h
  intro a w h
  refine env_one (i := 38) (d := 180) (k := .val (.bool false)) (step_pick_no (x := .const (.bool true)) (by kernel_rfl) (Opd.of_base 173 rfl) (Opd.of_base 179 rfl) rfl) (by kernel_rfl) (by decide) h ?_
  clear h
  intro a w h
  refine env_one (i := 39) (d := 181) (k := .val (.bool false)) (step_move (by kernel_rfl) (Opd.of_base 180 rfl) rfl) (by kernel_rfl) (by decide) h ?_
  clear h
  intro a w h
  refine env_guard (i := 40) (d := 182) (g := 39) (dg := 181) (b := false) (k := .val (.bool false)) (step_move (by kernel_rfl) (Opd.of_base 27 rfl) (by rw [b7]; rfl)) (by kernel_rfl) (by decide) (by kernel_rfl) (by decide) rfl h ?_
  clear h
  intro a w h
  refine env_guard (i := 41) (d := 183) (g := 39) (dg := 181) (b := false) (k := .val (.bool true)) (step_not (by kernel_rfl) (Opd.of_base 182 rfl) rfl) (by kernel_rfl) (by decide) (by kernel_rfl) (by decide) rfl h ?_
  clear h
  intro a w h
  refine env_guard (i := 42) (d := 184) (g := 39) (dg := 181) (b := false) (k := .val (.bool true)) (step_move (by kernel_rfl) (Opd.of_base 183 rfl) rfl) (by kernel_rfl) (by decide) (by kernel_rfl) (by decide) rfl h ?_
  clear h
  intro a w h
  refine env_guard (i := 43) (d := 185) (g := 42) (dg := 184) (b := true) (k := .val (.int .i64 0)) (step_move (by kernel_rfl) (Opd.of_base 25 rfl) (by rw [Bl.ind_zero b7]; rfl)) (by kernel_rfl) (by decide) (by kernel_rfl) (by decide) rfl h ?_
  clear h
  intro a w h
  refine env_guard (i := 44) (d := 186) (g := 42) (dg := 184) (b := true) (k := .val (.bool false)) (step_ne_int (m := 0) (n := 0) (by kernel_rfl) (Opd.of_base 185 rfl) (Opd.const _) (by simp) rfl) (by kernel_rfl) (by decide) (by kernel_rfl) (by decide) rfl h ?_
  clear h
  intro a w h
  refine env_guard (i := 45) (d := 187) (g := 39) (dg := 181) (b := false) (k := .val (.bool false)) (step_pick_yes (y := .const (.bool false)) (by kernel_rfl) (Opd.of_base 184 rfl) (Opd.of_base 186 rfl) rfl) (by kernel_rfl) (by decide) (by kernel_rfl) (by decide) rfl h ?_
  clear h
  intro a w h
  refine env_one (i := 46) (d := 188) (k := .val (.bool false)) (step_pick_no (x := .const (.bool true)) (by kernel_rfl) (Opd.of_base 181 rfl) (Opd.of_base 187 rfl) rfl) (by kernel_rfl) (by decide) h ?_
  clear h
  intro a w h
  exact hQ a w (h.keep [1, 2, 3, 990, 5, 7, 8, 10, 12, 14, 18, 20, 21, 23, 28, 188])
theorem lChecks20g_region {Q : Exit → Act → World → Prop} (p0 : Pay) (l0 : Fo) (s : Nat) (s2 : Nat) (b0 : (Bl.atom p0 l0).2.2 = true) (b1 : (Bl.int p0 l0).2.2 = false) (b4 : (Bl.list p0 l0).2.2 = true) (b5 : (Bl.char p0 l0).2.2 = false) (b6 : (Bl.code p0 l0).2.2 = false) (b7 : (Bl.ind p0 l0).2.2.2 = false) {w0 : World} {a : Act} {w : World} (h : Hold 275 [(1, .sat (oP s p0 l0)), (2, .val (.bool false)), (3, .sat (aB (s2 + 1) (Bl.bs p0 l0))), (990, .sat (gP (s2 + 1) none)), (5, .val (.string (Bl.atom p0 l0).1)), (7, .val (.bool ((Bl.atom p0 l0).2.2))), (8, .val (.int .i64 (Bl.int p0 l0).1)), (10, .val (.bool ((Bl.int p0 l0).2.2))), (12, .val (.bool ((Bl.callable p0 l0).2))), (14, .val (.bool ((Bl.atomic p0 l0).2))), (15, .sat (nR (s2 + 1) none ((Bl.list p0 l0).1))), (17, .val (.bool ((Bl.list p0 l0).2.2))), (18, .val (.int .i64 (Bl.char p0 l0).1)), (20, .val (.bool ((Bl.char p0 l0).2.2))), (21, .val (.int .i64 (Bl.code p0 l0).1)), (23, .val (.bool ((Bl.code p0 l0).2.2))), (25, .val (.int .i64 (Bl.ind p0 l0).2.1)), (27, .val (.bool ((Bl.ind p0 l0).2.2.2))), (28, .val (.bool (Tm.validB p0 l0)))] w0 a w)
    (hQ : ∀ a' w', Hold 275 [(1, .sat (oP s p0 l0)), (2, .val (.bool false)), (3, .sat (aB (s2 + 1) (Bl.bs p0 l0))), (990, .sat (gP (s2 + 1) none)), (5, .val (.string (Bl.atom p0 l0).1)), (7, .val (.bool ((Bl.atom p0 l0).2.2))), (8, .val (.int .i64 (Bl.int p0 l0).1)), (10, .val (.bool ((Bl.int p0 l0).2.2))), (12, .val (.bool ((Bl.callable p0 l0).2))), (14, .val (.bool ((Bl.atomic p0 l0).2))), (18, .val (.int .i64 (Bl.char p0 l0).1)), (20, .val (.bool ((Bl.char p0 l0).2.2))), (21, .val (.int .i64 (Bl.code p0 l0).1)), (23, .val (.bool ((Bl.code p0 l0).2.2))), (28, .val (.bool (Tm.validB p0 l0))), (188, .val (.bool false))] w0 a' w' → Q .normal a' w') : (Code.region 20 lChecks20Ops false).wp Try.prog Q a w := by
  refine region_seq (w0 := w) 47 (by kernel_rfl) ?_
  rw [show List.range 47 = [0, 1, 2, 3, 4, 5, 6, 7, 8, 9, 10, 11, 12, 13, 14, 15, 16, 17, 18, 19, 20, 21, 22, 23, 24, 25, 26, 27, 28, 29, 30, 31, 32, 33, 34, 35, 36, 37, 38, 39, 40, 41, 42, 43, 44, 45, 46] from rfl]
  refine env_one (i := 0) (d := 142) (k := .val (.bool true)) (step_move (by kernel_rfl) (Opd.of_base 7 rfl) (by rw [b0]; rfl)) (by kernel_rfl) (by decide) h ?_
  clear h
  intro a w h
  refine env_one (i := 1) (d := 143) (k := .val (.bool false)) (step_not (by kernel_rfl) (Opd.of_base 142 rfl) rfl) (by kernel_rfl) (by decide) h ?_
  clear h
  intro a w h
  refine env_one (i := 2) (d := 144) (k := .val (.bool false)) (step_move (by kernel_rfl) (Opd.of_base 143 rfl) rfl) (by kernel_rfl) (by decide) h ?_
  clear h
  intro a w h
  refine env_skip (i := 3) (d := 145) (g := 2) (dg := 144) (b := true) (by kernel_rfl) (by decide) (by kernel_rfl) rfl rfl h ?_
  clear h
  intro a w h
  refine env_skip (i := 4) (d := 146) (g := 2) (dg := 144) (b := true) (by kernel_rfl) (by decide) (by kernel_rfl) rfl rfl h ?_
  clear h
  intro a w h
  refine env_one (i := 5) (d := 147) (k := .val (.bool false)) (step_pick_no (x := .tmp 146) (by kernel_rfl) (Opd.of_base 144 rfl) (Opd.const _) rfl) (by kernel_rfl) (by decide) h ?_
  clear h
  intro a w h
  refine env_one (i := 6) (d := 148) (k := .val (.bool false)) (step_move (by kernel_rfl) (Opd.of_base 147 rfl) rfl) (by kernel_rfl) (by decide) h ?_
  clear h
  intro a w h
  refine env_guard (i := 7) (d := 149) (g := 6) (dg := 148) (b := false) (k := .val (.bool false)) (step_move (by kernel_rfl) (Opd.of_base 10 rfl) (by rw [b1]; rfl)) (by kernel_rfl) (by decide) (by kernel_rfl) (by decide) rfl h ?_
  clear h
  intro a w h
  refine env_guard (i := 8) (d := 150) (g := 6) (dg := 148) (b := false) (k := .val (.bool true)) (step_not (by kernel_rfl) (Opd.of_base 149 rfl) rfl) (by kernel_rfl) (by decide) (by kernel_rfl) (by decide) rfl h ?_
  clear h
  intro a w h
  refine env_guard (i := 9) (d := 151) (g := 6) (dg := 148) (b := false) (k := .val (.bool true)) (step_move (by kernel_rfl) (Opd.of_base 150 rfl) rfl) (by kernel_rfl) (by decide) (by kernel_rfl) (by decide) rfl h ?_
  clear h
  intro a w h
  refine env_guard (i := 10) (d := 152) (g := 9) (dg := 151) (b := true) (k := .val (.int .i64 0)) (step_move (by kernel_rfl) (Opd.of_base 8 rfl) (by rw [Bl.int_zero b1]; rfl)) (by kernel_rfl) (by decide) (by kernel_rfl) (by decide) rfl h ?_
  clear h
  intro a w h
  refine env_guard (i := 11) (d := 153) (g := 9) (dg := 151) (b := true) (k := .val (.bool false)) (step_ne_int64 (m := 0) (n := 0) (by kernel_rfl) (Opd.of_base 152 rfl) (Opd.const _) (by simp) rfl) (by kernel_rfl) (by decide) (by kernel_rfl) (by decide) rfl h ?_
  clear h
  intro a w h
  refine env_guard (i := 12) (d := 154) (g := 6) (dg := 148) (b := false) (k := .val (.bool false)) (step_pick_yes (y := .const (.bool false)) (by kernel_rfl) (Opd.of_base 151 rfl) (Opd.of_base 153 rfl) rfl) (by kernel_rfl) (by decide) (by kernel_rfl) (by decide) rfl h ?_
  clear h
  intro a w h
  refine env_one (i := 13) (d := 155) (k := .val (.bool false)) (step_pick_no (x := .const (.bool true)) (by kernel_rfl) (Opd.of_base 148 rfl) (Opd.of_base 154 rfl) rfl) (by kernel_rfl) (by decide) h ?_
  clear h
  intro a w h
  refine env_one (i := 14) (d := 156) (k := .val (.bool false)) (step_move (by kernel_rfl) (Opd.of_base 155 rfl) rfl) (by kernel_rfl) (by decide) h ?_
  clear h
  intro a w h
  refine env_guard (i := 15) (d := 157) (g := 14) (dg := 156) (b := false) (k := .val (.bool true)) (step_move (by kernel_rfl) (Opd.of_base 17 rfl) (by rw [b4]; rfl)) (by kernel_rfl) (by decide) (by kernel_rfl) (by decide) rfl h ?_
  clear h
  intro a w h
  refine env_guard (i := 16) (d := 158) (g := 14) (dg := 156) (b := false) (k := .val (.bool false)) (step_not (by kernel_rfl) (Opd.of_base 157 rfl) rfl) (by kernel_rfl) (by decide) (by kernel_rfl) (by decide) rfl h ?_
  clear h
  intro a w h
  refine env_guard (i := 17) (d := 159) (g := 14) (dg := 156) (b := false) (k := .val (.bool false)) (step_move (by kernel_rfl) (Opd.of_base 158 rfl) rfl) (by kernel_rfl) (by decide) (by kernel_rfl) (by decide) rfl h ?_
  clear h
  intro a w h
  refine env_skip (i := 18) (d := 160) (g := 17) (dg := 159) (b := true) (by kernel_rfl) (by decide) (by kernel_rfl) rfl rfl h ?_
  clear h
  intro a w h
  refine env_skip (i := 19) (d := 161) (g := 17) (dg := 159) (b := true) (by kernel_rfl) (by decide) (by kernel_rfl) rfl rfl h ?_
  clear h
  intro a w h
  refine env_skip (i := 20) (d := 162) (g := 17) (dg := 159) (b := true) (by kernel_rfl) (by decide) (by kernel_rfl) rfl rfl h ?_
  clear h
  intro a w h
  refine env_guard (i := 21) (d := 163) (g := 14) (dg := 156) (b := false) (k := .val (.bool false)) (step_pick_no (x := .tmp 162) (by kernel_rfl) (Opd.of_base 159 rfl) (Opd.const _) rfl) (by kernel_rfl) (by decide) (by kernel_rfl) (by decide) rfl h ?_
  clear h
  intro a w h
  refine env_one (i := 22) (d := 164) (k := .val (.bool false)) (step_pick_no (x := .const (.bool true)) (by kernel_rfl) (Opd.of_base 156 rfl) (Opd.of_base 163 rfl) rfl) (by kernel_rfl) (by decide) h ?_
  clear h
  intro a w h
  refine env_one (i := 23) (d := 165) (k := .val (.bool false)) (step_move (by kernel_rfl) (Opd.of_base 164 rfl) rfl) (by kernel_rfl) (by decide) h ?_
  clear h
  intro a w h
  refine env_guard (i := 24) (d := 166) (g := 23) (dg := 165) (b := false) (k := .val (.bool false)) (step_move (by kernel_rfl) (Opd.of_base 20 rfl) (by rw [b5]; rfl)) (by kernel_rfl) (by decide) (by kernel_rfl) (by decide) rfl h ?_
  clear h
  intro a w h
  refine env_guard (i := 25) (d := 167) (g := 23) (dg := 165) (b := false) (k := .val (.bool true)) (step_not (by kernel_rfl) (Opd.of_base 166 rfl) rfl) (by kernel_rfl) (by decide) (by kernel_rfl) (by decide) rfl h ?_
  clear h
  intro a w h
  refine env_guard (i := 26) (d := 168) (g := 23) (dg := 165) (b := false) (k := .val (.bool true)) (step_move (by kernel_rfl) (Opd.of_base 167 rfl) rfl) (by kernel_rfl) (by decide) (by kernel_rfl) (by decide) rfl h ?_
  clear h
  intro a w h
  refine env_guard (i := 27) (d := 169) (g := 26) (dg := 168) (b := true) (k := .val (.int .i64 0)) (step_move (by kernel_rfl) (Opd.of_base 18 rfl) (by rw [Bl.char_zero b5]; rfl)) (by kernel_rfl) (by decide) (by kernel_rfl) (by decide) rfl h ?_
  clear h
  intro a w h
  refine env_guard (i := 28) (d := 170) (g := 26) (dg := 168) (b := true) (k := .val (.bool false)) (step_ne_int (m := 0) (n := 0) (by kernel_rfl) (Opd.of_base 169 rfl) (Opd.const _) (by simp) rfl) (by kernel_rfl) (by decide) (by kernel_rfl) (by decide) rfl h ?_
  clear h
  intro a w h
  refine env_guard (i := 29) (d := 171) (g := 23) (dg := 165) (b := false) (k := .val (.bool false)) (step_pick_yes (y := .const (.bool false)) (by kernel_rfl) (Opd.of_base 168 rfl) (Opd.of_base 170 rfl) rfl) (by kernel_rfl) (by decide) (by kernel_rfl) (by decide) rfl h ?_
  clear h
  intro a w h
  refine env_one (i := 30) (d := 172) (k := .val (.bool false)) (step_pick_no (x := .const (.bool true)) (by kernel_rfl) (Opd.of_base 165 rfl) (Opd.of_base 171 rfl) rfl) (by kernel_rfl) (by decide) h ?_
  clear h
  intro a w h
  refine env_one (i := 31) (d := 173) (k := .val (.bool false)) (step_move (by kernel_rfl) (Opd.of_base 172 rfl) rfl) (by kernel_rfl) (by decide) h ?_
  clear h
  intro a w h
  refine env_guard (i := 32) (d := 174) (g := 31) (dg := 173) (b := false) (k := .val (.bool false)) (step_move (by kernel_rfl) (Opd.of_base 23 rfl) (by rw [b6]; rfl)) (by kernel_rfl) (by decide) (by kernel_rfl) (by decide) rfl h ?_
  clear h
  intro a w h
  refine env_guard (i := 33) (d := 175) (g := 31) (dg := 173) (b := false) (k := .val (.bool true)) (step_not (by kernel_rfl) (Opd.of_base 174 rfl) rfl) (by kernel_rfl) (by decide) (by kernel_rfl) (by decide) rfl h ?_
  clear h
  intro a w h
  refine env_guard (i := 34) (d := 176) (g := 31) (dg := 173) (b := false) (k := .val (.bool true)) (step_move (by kernel_rfl) (Opd.of_base 175 rfl) rfl) (by kernel_rfl) (by decide) (by kernel_rfl) (by decide) rfl h ?_
  clear h
  intro a w h
  refine env_guard (i := 35) (d := 177) (g := 34) (dg := 176) (b := true) (k := .val (.int .i64 0)) (step_move (by kernel_rfl) (Opd.of_base 21 rfl) (by rw [Bl.code_zero b6]; rfl)) (by kernel_rfl) (by decide) (by kernel_rfl) (by decide) rfl h ?_
  clear h
  intro a w h
  refine env_guard (i := 36) (d := 178) (g := 34) (dg := 176) (b := true) (k := .val (.bool false)) (step_ne_int (m := 0) (n := 0) (by kernel_rfl) (Opd.of_base 177 rfl) (Opd.const _) (by simp) rfl) (by kernel_rfl) (by decide) (by kernel_rfl) (by decide) rfl h ?_
  clear h
  intro a w h
  refine env_guard (i := 37) (d := 179) (g := 31) (dg := 173) (b := false) (k := .val (.bool false)) (step_pick_yes (y := .const (.bool false)) (by kernel_rfl) (Opd.of_base 176 rfl) (Opd.of_base 178 rfl) rfl) (by kernel_rfl) (by decide) (by kernel_rfl) (by decide) rfl h ?_
  clear h
  intro a w h
  refine env_one (i := 38) (d := 180) (k := .val (.bool false)) (step_pick_no (x := .const (.bool true)) (by kernel_rfl) (Opd.of_base 173 rfl) (Opd.of_base 179 rfl) rfl) (by kernel_rfl) (by decide) h ?_
  clear h
  intro a w h
  refine env_one (i := 39) (d := 181) (k := .val (.bool false)) (step_move (by kernel_rfl) (Opd.of_base 180 rfl) rfl) (by kernel_rfl) (by decide) h ?_
  clear h
  intro a w h
  refine env_guard (i := 40) (d := 182) (g := 39) (dg := 181) (b := false) (k := .val (.bool false)) (step_move (by kernel_rfl) (Opd.of_base 27 rfl) (by rw [b7]; rfl)) (by kernel_rfl) (by decide) (by kernel_rfl) (by decide) rfl h ?_
  clear h
  intro a w h
  refine env_guard (i := 41) (d := 183) (g := 39) (dg := 181) (b := false) (k := .val (.bool true)) (step_not (by kernel_rfl) (Opd.of_base 182 rfl) rfl) (by kernel_rfl) (by decide) (by kernel_rfl) (by decide) rfl h ?_
  clear h
  intro a w h
  refine env_guard (i := 42) (d := 184) (g := 39) (dg := 181) (b := false) (k := .val (.bool true)) (step_move (by kernel_rfl) (Opd.of_base 183 rfl) rfl) (by kernel_rfl) (by decide) (by kernel_rfl) (by decide) rfl h ?_
  clear h
  intro a w h
  refine env_guard (i := 43) (d := 185) (g := 42) (dg := 184) (b := true) (k := .val (.int .i64 0)) (step_move (by kernel_rfl) (Opd.of_base 25 rfl) (by rw [Bl.ind_zero b7]; rfl)) (by kernel_rfl) (by decide) (by kernel_rfl) (by decide) rfl h ?_
  clear h
  intro a w h
  refine env_guard (i := 44) (d := 186) (g := 42) (dg := 184) (b := true) (k := .val (.bool false)) (step_ne_int (m := 0) (n := 0) (by kernel_rfl) (Opd.of_base 185 rfl) (Opd.const _) (by simp) rfl) (by kernel_rfl) (by decide) (by kernel_rfl) (by decide) rfl h ?_
  clear h
  intro a w h
  refine env_guard (i := 45) (d := 187) (g := 39) (dg := 181) (b := false) (k := .val (.bool false)) (step_pick_yes (y := .const (.bool false)) (by kernel_rfl) (Opd.of_base 184 rfl) (Opd.of_base 186 rfl) rfl) (by kernel_rfl) (by decide) (by kernel_rfl) (by decide) rfl h ?_
  clear h
  intro a w h
  refine env_one (i := 46) (d := 188) (k := .val (.bool false)) (step_pick_no (x := .const (.bool true)) (by kernel_rfl) (Opd.of_base 181 rfl) (Opd.of_base 187 rfl) rfl) (by kernel_rfl) (by decide) h ?_
  clear h
  intro a w h
  exact hQ a w (h.keep [1, 2, 3, 990, 5, 7, 8, 10, 12, 14, 18, 20, 21, 23, 28, 188])
theorem lChecks20h_region {Q : Exit → Act → World → Prop} (p0 : Pay) (l0 : Fo) (s : Nat) (s2 : Nat) (b0 : (Bl.atom p0 l0).2.2 = true) (b1 : (Bl.int p0 l0).2.2 = false) (b4 : (Bl.list p0 l0).2.2 = true) (b5 : (Bl.char p0 l0).2.2 = true) (b6 : (Bl.code p0 l0).2.2 = false) (b7 : (Bl.ind p0 l0).2.2.2 = false) {w0 : World} {a : Act} {w : World} (h : Hold 275 [(1, .sat (oP s p0 l0)), (2, .val (.bool false)), (3, .sat (aB (s2 + 1) (Bl.bs p0 l0))), (990, .sat (gP (s2 + 1) none)), (5, .val (.string (Bl.atom p0 l0).1)), (7, .val (.bool ((Bl.atom p0 l0).2.2))), (8, .val (.int .i64 (Bl.int p0 l0).1)), (10, .val (.bool ((Bl.int p0 l0).2.2))), (12, .val (.bool ((Bl.callable p0 l0).2))), (14, .val (.bool ((Bl.atomic p0 l0).2))), (15, .sat (nR (s2 + 1) none ((Bl.list p0 l0).1))), (17, .val (.bool ((Bl.list p0 l0).2.2))), (18, .val (.int .i64 (Bl.char p0 l0).1)), (20, .val (.bool ((Bl.char p0 l0).2.2))), (21, .val (.int .i64 (Bl.code p0 l0).1)), (23, .val (.bool ((Bl.code p0 l0).2.2))), (25, .val (.int .i64 (Bl.ind p0 l0).2.1)), (27, .val (.bool ((Bl.ind p0 l0).2.2.2))), (28, .val (.bool (Tm.validB p0 l0)))] w0 a w)
    (hQ : ∀ a' w', Hold 275 [(1, .sat (oP s p0 l0)), (2, .val (.bool false)), (3, .sat (aB (s2 + 1) (Bl.bs p0 l0))), (990, .sat (gP (s2 + 1) none)), (5, .val (.string (Bl.atom p0 l0).1)), (7, .val (.bool ((Bl.atom p0 l0).2.2))), (8, .val (.int .i64 (Bl.int p0 l0).1)), (10, .val (.bool ((Bl.int p0 l0).2.2))), (12, .val (.bool ((Bl.callable p0 l0).2))), (14, .val (.bool ((Bl.atomic p0 l0).2))), (18, .val (.int .i64 (Bl.char p0 l0).1)), (20, .val (.bool ((Bl.char p0 l0).2.2))), (21, .val (.int .i64 (Bl.code p0 l0).1)), (23, .val (.bool ((Bl.code p0 l0).2.2))), (28, .val (.bool (Tm.validB p0 l0))), (188, .val (.bool false))] w0 a' w' → Q .normal a' w') : (Code.region 20 lChecks20Ops false).wp Try.prog Q a w := by
  refine region_seq (w0 := w) 47 (by kernel_rfl) ?_
  rw [show List.range 47 = [0, 1, 2, 3, 4, 5, 6, 7, 8, 9, 10, 11, 12, 13, 14, 15, 16, 17, 18, 19, 20, 21, 22, 23, 24, 25, 26, 27, 28, 29, 30, 31, 32, 33, 34, 35, 36, 37, 38, 39, 40, 41, 42, 43, 44, 45, 46] from rfl]
  refine env_one (i := 0) (d := 142) (k := .val (.bool true)) (step_move (by kernel_rfl) (Opd.of_base 7 rfl) (by rw [b0]; rfl)) (by kernel_rfl) (by decide) h ?_
  clear h
  intro a w h
  refine env_one (i := 1) (d := 143) (k := .val (.bool false)) (step_not (by kernel_rfl) (Opd.of_base 142 rfl) rfl) (by kernel_rfl) (by decide) h ?_
  clear h
  intro a w h
  refine env_one (i := 2) (d := 144) (k := .val (.bool false)) (step_move (by kernel_rfl) (Opd.of_base 143 rfl) rfl) (by kernel_rfl) (by decide) h ?_
  clear h
  intro a w h
  refine env_skip (i := 3) (d := 145) (g := 2) (dg := 144) (b := true) (by kernel_rfl) (by decide) (by kernel_rfl) rfl rfl h ?_
  clear h
  intro a w h
  refine env_skip (i := 4) (d := 146) (g := 2) (dg := 144) (b := true) (by kernel_rfl) (by decide) (by kernel_rfl) rfl rfl h ?_
  clear h
  intro a w h
  refine env_one (i := 5) (d := 147) (k := .val (.bool false)) (step_pick_no (x := .tmp 146) (by kernel_rfl) (Opd.of_base 144 rfl) (Opd.const _) rfl) (by kernel_rfl) (by decide) h ?_
  clear h
  intro a w h
  refine env_one (i := 6) (d := 148) (k := .val (.bool false)) (step_move (by kernel_rfl) (Opd.of_base 147 rfl) rfl) (by kernel_rfl) (by decide) h ?_
  clear h
  intro a w h
  refine env_guard (i := 7) (d := 149) (g := 6) (dg := 148) (b := false) (k := .val (.bool false)) (step_move (by kernel_rfl) (Opd.of_base 10 rfl) (by rw [b1]; rfl)) (by kernel_rfl) (by decide) (by kernel_rfl) (by decide) rfl h ?_
  clear h
  intro a w h
  refine env_guard (i := 8) (d := 150) (g := 6) (dg := 148) (b := false) (k := .val (.bool true)) (step_not (by kernel_rfl) (Opd.of_base 149 rfl) rfl) (by kernel_rfl) (by decide) (by kernel_rfl) (by decide) rfl h ?_
  clear h
  intro a w h
  refine env_guard (i := 9) (d := 151) (g := 6) (dg := 148) (b := false) (k := .val (.bool true)) (step_move (by kernel_rfl) (Opd.of_base 150 rfl) rfl) (by kernel_rfl) (by decide) (by kernel_rfl) (by decide) rfl h ?_
  clear h
  intro a w h
  refine env_guard (i := 10) (d := 152) (g := 9) (dg := 151) (b := true) (k := .val (.int .i64 0)) (step_move (by kernel_rfl) (Opd.of_base 8 rfl) (by rw [Bl.int_zero b1]; rfl)) (by kernel_rfl) (by decide) (by kernel_rfl) (by decide) rfl h ?_
  clear h
  intro a w h
  refine env_guard (i := 11) (d := 153) (g := 9) (dg := 151) (b := true) (k := .val (.bool false)) (step_ne_int64 (m := 0) (n := 0) (by kernel_rfl) (Opd.of_base 152 rfl) (Opd.const _) (by simp) rfl) (by kernel_rfl) (by decide) (by kernel_rfl) (by decide) rfl h ?_
  clear h
  intro a w h
  refine env_guard (i := 12) (d := 154) (g := 6) (dg := 148) (b := false) (k := .val (.bool false)) (step_pick_yes (y := .const (.bool false)) (by kernel_rfl) (Opd.of_base 151 rfl) (Opd.of_base 153 rfl) rfl) (by kernel_rfl) (by decide) (by kernel_rfl) (by decide) rfl h ?_
  clear h
  intro a w h
  refine env_one (i := 13) (d := 155) (k := .val (.bool false)) (step_pick_no (x := .const (.bool true)) (by kernel_rfl) (Opd.of_base 148 rfl) (Opd.of_base 154 rfl) rfl) (by kernel_rfl) (by decide) h ?_
  clear h
  intro a w h
  refine env_one (i := 14) (d := 156) (k := .val (.bool false)) (step_move (by kernel_rfl) (Opd.of_base 155 rfl) rfl) (by kernel_rfl) (by decide) h ?_
  clear h
  intro a w h
  refine env_guard (i := 15) (d := 157) (g := 14) (dg := 156) (b := false) (k := .val (.bool true)) (step_move (by kernel_rfl) (Opd.of_base 17 rfl) (by rw [b4]; rfl)) (by kernel_rfl) (by decide) (by kernel_rfl) (by decide) rfl h ?_
  clear h
  intro a w h
  refine env_guard (i := 16) (d := 158) (g := 14) (dg := 156) (b := false) (k := .val (.bool false)) (step_not (by kernel_rfl) (Opd.of_base 157 rfl) rfl) (by kernel_rfl) (by decide) (by kernel_rfl) (by decide) rfl h ?_
  clear h
  intro a w h
  refine env_guard (i := 17) (d := 159) (g := 14) (dg := 156) (b := false) (k := .val (.bool false)) (step_move (by kernel_rfl) (Opd.of_base 158 rfl) rfl) (by kernel_rfl) (by decide) (by kernel_rfl) (by decide) rfl h ?_
  clear h
  intro a w h
  refine env_skip (i := 18) (d := 160) (g := 17) (dg := 159) (b := true) (by kernel_rfl) (by decide) (by kernel_rfl) rfl rfl h ?_
  clear h
  intro a w h
  refine env_skip (i := 19) (d := 161) (g := 17) (dg := 159) (b := true) (by kernel_rfl) (by decide) (by kernel_rfl) rfl rfl h ?_
  clear h
  intro a w h
  refine env_skip (i := 20) (d := 162) (g := 17) (dg := 159) (b := true) (by kernel_rfl) (by decide) (by kernel_rfl) rfl rfl h ?_
  clear h
  intro a w h
  refine env_guard (i := 21) (d := 163) (g := 14) (dg := 156) (b := false) (k := .val (.bool false)) (step_pick_no (x := .tmp 162) (by kernel_rfl) (Opd.of_base 159 rfl) (Opd.const _) rfl) (by kernel_rfl) (by decide) (by kernel_rfl) (by decide) rfl h ?_
  clear h
  intro a w h
  refine env_one (i := 22) (d := 164) (k := .val (.bool false)) (step_pick_no (x := .const (.bool true)) (by kernel_rfl) (Opd.of_base 156 rfl) (Opd.of_base 163 rfl) rfl) (by kernel_rfl) (by decide) h ?_
  clear h
  intro a w h
  refine env_one (i := 23) (d := 165) (k := .val (.bool false)) (step_move (by kernel_rfl) (Opd.of_base 164 rfl) rfl) (by kernel_rfl) (by decide) h ?_
  clear h
  intro a w h
  refine env_guard (i := 24) (d := 166) (g := 23) (dg := 165) (b := false) (k := .val (.bool true)) (step_move (by kernel_rfl) (Opd.of_base 20 rfl) (by rw [b5]; rfl)) (by kernel_rfl) (by decide) (by kernel_rfl) (by decide) rfl h ?_
  clear h
  intro a w h
  refine env_guard (i := 25) (d := 167) (g := 23) (dg := 165) (b := false) (k := .val (.bool false)) (step_not (by kernel_rfl) (Opd.of_base 166 rfl) rfl) (by kernel_rfl) (by decide) (by kernel_rfl) (by decide) rfl h ?_
  clear h
  intro a w h
  refine env_guard (i := 26) (d := 168) (g := 23) (dg := 165) (b := false) (k := .val (.bool false)) (step_move (by kernel_rfl) (Opd.of_base 167 rfl) rfl) (by kernel_rfl) (by decide) (by kernel_rfl) (by decide) rfl h ?_
  clear h
  intro a w h
  refine env_skip (i := 27) (d := 169) (g := 26) (dg := 168) (b := true) (by kernel_rfl) (by decide) (by kernel_rfl) rfl rfl h ?_
  clear h
  intro a w h
  refine env_skip (i := 28) (d := 170) (g := 26) (dg := 168) (b := true) (by kernel_rfl) (by decide) (by kernel_rfl) rfl rfl h ?_
  clear h
  intro a w h
  refine env_guard (i := 29) (d := 171) (g := 23) (dg := 165) (b := false) (k := .val (.bool false)) (step_pick_no (x := .tmp 170) (by kernel_rfl) (Opd.of_base 168 rfl) (Opd.const _) rfl) (by kernel_rfl) (by decide) (by kernel_rfl) (by decide) rfl h ?_
  clear h
  intro a w h
  refine env_one (i := 30) (d := 172) (k := .val (.bool false)) (step_pick_no (x := .const (.bool true)) (by kernel_rfl) (Opd.of_base 165 rfl) (Opd.of_base 171 rfl) rfl) (by kernel_rfl) (by decide) h ?_
  clear h
  intro a w h
  refine env_one (i := 31) (d := 173) (k := .val (.bool false)) (step_move (by kernel_rfl) (Opd.of_base 172 rfl) rfl) (by kernel_rfl) (by decide) h ?_
  clear h
  intro a w h
  refine env_guard (i := 32) (d := 174) (g := 31) (dg := 173) (b := false) (k := .val (.bool false)) (step_move (by kernel_rfl) (Opd.of_base 23 rfl) (by rw [b6]; rfl)) (by kernel_rfl) (by decide) (by kernel_rfl) (by decide) rfl h ?_
  clear h
  intro a w h
  refine env_guard (i := 33) (d := 175) (g := 31) (dg := 173) (b := false) (k := .val (.bool true)) (step_not (by kernel_rfl) (Opd.of_base 174 rfl) rfl) (by kernel_rfl) (by decide) (by kernel_rfl) (by decide) rfl h ?_
  clear h
  intro a w h
  refine env_guard (i := 34) (d := 176) (g := 31) (dg := 173) (b := false) (k := .val (.bool true)) (step_move (by kernel_rfl) (Opd.of_base 175 rfl) rfl) (by kernel_rfl) (by decide) (by kernel_rfl) (by decide) rfl h ?_
  clear h
  intro a w h
  refine env_guard (i := 35) (d := 177) (g := 34) (dg := 176) (b := true) (k := .val (.int .i64 0)) (step_move (by kernel_rfl) (Opd.of_base 21 rfl) (by rw [Bl.code_zero b6]; rfl)) (by kernel_rfl) (by decide) (by kernel_rfl) (by decide) rfl h ?_
  clear h
  intro a w h
  refine env_guard (i := 36) (d := 178) (g := 34) (dg := 176) (b := true) (k := .val (.bool false)) (step_ne_int (m := 0) (n := 0) (by kernel_rfl) (Opd.of_base 177 rfl) (Opd.const _) (by simp) rfl) (by kernel_rfl) (by decide) (by kernel_rfl) (by decide) rfl h ?_
  clear h
  intro a w h
  refine env_guard (i := 37) (d := 179) (g := 31) (dg := 173) (b := false) (k := .val (.bool false)) (step_pick_yes (y := .const (.bool false)) (by kernel_rfl) (Opd.of_base 176 rfl) (Opd.of_base 178 rfl) rfl) (by kernel_rfl) (by decide) (by kernel_rfl) (by decide) rfl h ?_
  clear h
  intro a w h
  refine env_one (i := 38) (d := 180) (k := .val (.bool false)) (step_pick_no (x := .const (.bool true)) (by kernel_rfl) (Opd.of_base 173 rfl) (Opd.of_base 179 rfl) rfl) (by kernel_rfl) (by decide) h ?_
  clear h
  intro a w h
  refine env_one (i := 39) (d := 181) (k := .val (.bool false)) (step_move (by kernel_rfl) (Opd.of_base 180 rfl) rfl) (by kernel_rfl) (by decide) h ?_
  clear h
  intro a w h
  refine env_guard (i := 40) (d := 182) (g := 39) (dg := 181) (b := false) (k := .val (.bool false)) (step_move (by kernel_rfl) (Opd.of_base 27 rfl) (by rw [b7]; rfl)) (by kernel_rfl) (by decide) (by kernel_rfl) (by decide) rfl h ?_
  clear h
  intro a w h
  refine env_guard (i := 41) (d := 183) (g := 39) (dg := 181) (b := false) (k := .val (.bool true)) (step_not (by kernel_rfl) (Opd.of_base 182 rfl) rfl) (by kernel_rfl) (by decide) (by kernel_rfl) (by decide) rfl h ?_
  clear h
  intro a w h
  refine env_guard (i := 42) (d := 184) (g := 39) (dg := 181) (b := false) (k := .val (.bool true)) (step_move (by kernel_rfl) (Opd.of_base 183 rfl) rfl) (by kernel_rfl) (by decide) (by kernel_rfl) (by decide) rfl h ?_
  clear h
  intro a w h
  refine env_guard (i := 43) (d := 185) (g := 42) (dg := 184) (b := true) (k := .val (.int .i64 0)) (step_move (by kernel_rfl) (Opd.of_base 25 rfl) (by rw [Bl.ind_zero b7]; rfl)) (by kernel_rfl) (by decide) (by kernel_rfl) (by decide) rfl h ?_
  clear h
  intro a w h
  refine env_guard (i := 44) (d := 186) (g := 42) (dg := 184) (b := true) (k := .val (.bool false)) (step_ne_int (m := 0) (n := 0) (by kernel_rfl) (Opd.of_base 185 rfl) (Opd.const _) (by simp) rfl) (by kernel_rfl) (by decide) (by kernel_rfl) (by decide) rfl h ?_
  clear h
  intro a w h
  refine env_guard (i := 45) (d := 187) (g := 39) (dg := 181) (b := false) (k := .val (.bool false)) (step_pick_yes (y := .const (.bool false)) (by kernel_rfl) (Opd.of_base 184 rfl) (Opd.of_base 186 rfl) rfl) (by kernel_rfl) (by decide) (by kernel_rfl) (by decide) rfl h ?_
  clear h
  intro a w h
  refine env_one (i := 46) (d := 188) (k := .val (.bool false)) (step_pick_no (x := .const (.bool true)) (by kernel_rfl) (Opd.of_base 181 rfl) (Opd.of_base 187 rfl) rfl) (by kernel_rfl) (by decide) h ?_
  clear h
  intro a w h
  exact hQ a w (h.keep [1, 2, 3, 990, 5, 7, 8, 10, 12, 14, 18, 20, 21, 23, 28, 188])
theorem lChecks20i_region {Q : Exit → Act → World → Prop} (p0 : Pay) (l0 : Fo) (s : Nat) (s2 : Nat) (b0 : (Bl.atom p0 l0).2.2 = false) (b1 : (Bl.int p0 l0).2.2 = true) (b4 : (Bl.list p0 l0).2.2 = false) (b5 : (Bl.char p0 l0).2.2 = false) (b6 : (Bl.code p0 l0).2.2 = false) (b7 : (Bl.ind p0 l0).2.2.2 = false) {w0 : World} {a : Act} {w : World} (h : Hold 275 [(1, .sat (oP s p0 l0)), (2, .val (.bool false)), (3, .sat (aB (s2 + 1) (Bl.bs p0 l0))), (990, .sat (gP (s2 + 1) none)), (5, .val (.string (Bl.atom p0 l0).1)), (7, .val (.bool ((Bl.atom p0 l0).2.2))), (8, .val (.int .i64 (Bl.int p0 l0).1)), (10, .val (.bool ((Bl.int p0 l0).2.2))), (12, .val (.bool ((Bl.callable p0 l0).2))), (14, .val (.bool ((Bl.atomic p0 l0).2))), (15, .sat (nR (s2 + 1) none ((Bl.list p0 l0).1))), (17, .val (.bool ((Bl.list p0 l0).2.2))), (18, .val (.int .i64 (Bl.char p0 l0).1)), (20, .val (.bool ((Bl.char p0 l0).2.2))), (21, .val (.int .i64 (Bl.code p0 l0).1)), (23, .val (.bool ((Bl.code p0 l0).2.2))), (25, .val (.int .i64 (Bl.ind p0 l0).2.1)), (27, .val (.bool ((Bl.ind p0 l0).2.2.2))), (28, .val (.bool (Tm.validB p0 l0)))] w0 a w)
    (hQ : ∀ a' w', Hold 275 [(1, .sat (oP s p0 l0)), (2, .val (.bool false)), (3, .sat (aB (s2 + 1) (Bl.bs p0 l0))), (990, .sat (gP (s2 + 1) none)), (5, .val (.string (Bl.atom p0 l0).1)), (7, .val (.bool ((Bl.atom p0 l0).2.2))), (8, .val (.int .i64 (Bl.int p0 l0).1)), (10, .val (.bool ((Bl.int p0 l0).2.2))), (12, .val (.bool ((Bl.callable p0 l0).2))), (14, .val (.bool ((Bl.atomic p0 l0).2))), (18, .val (.int .i64 (Bl.char p0 l0).1)), (20, .val (.bool ((Bl.char p0 l0).2.2))), (21, .val (.int .i64 (Bl.code p0 l0).1)), (23, .val (.bool ((Bl.code p0 l0).2.2))), (28, .val (.bool (Tm.validB p0 l0))), (188, .val (.bool false))] w0 a' w' → Q .normal a' w') : (Code.region 20 lChecks20Ops false).wp Try.prog Q a w := by
  refine region_seq (w0 := w) 47 (by kernel_rfl) ?_
  rw [show List.range 47 = [0, 1, 2, 3, 4, 5, 6, 7, 8, 9, 10, 11, 12, 13, 14, 15, 16, 17, 18, 19, 20, 21, 22, 23, 24, 25, 26, 27, 28, 29, 30, 31, 32, 33, 34, 35, 36, 37, 38, 39, 40, 41, 42, 43, 44, 45, 46] from rfl]
  refine env_one (i := 0) (d := 142) (k := .val (.bool false)) (step_move (by kernel_rfl) (Opd.of_base 7 rfl) (by rw [b0]; rfl)) (by kernel_rfl) (by decide) h ?_
  clear h
  intro a w h
  refine env_one (i := 1) (d := 143) (k := .val (.bool true)) (step_not (by kernel_rfl) (Opd.of_base 142 rfl) rfl) (by kernel_rfl) (by decide) h ?_
  clear h
  intro a w h
  refine env_one (i := 2) (d := 144) (k := .val (.bool true)) (step_move (by kernel_rfl) (Opd.of_base 143 rfl) rfl) (by kernel_rfl) (by decide) h ?_
  clear h
  intro a w h
  refine env_guard (i := 3) (d := 145) (g := 2) (dg := 144) (b := true) (k := .val (.string ⟨#[]⟩)) (step_move (by kernel_rfl) (Opd.of_base 5 rfl) (by rw [Bl.atom_zero b0]; rfl)) (by kernel_rfl) (by decide) (by kernel_rfl) (by decide) rfl h ?_
  clear h
  intro a w h
  refine env_guard (i := 4) (d := 146) (g := 2) (dg := 144) (b := true) (k := .val (.bool false)) (step_ne_str (s := ⟨#[]⟩) (t := ⟨#[]⟩) (by kernel_rfl) (Opd.of_base 145 rfl) (Opd.const _) (by simp) rfl) (by kernel_rfl) (by decide) (by kernel_rfl) (by decide) rfl h ?_
  clear h
  intro a w h
  refine env_one (i := 5) (d := 147) (k := .val (.bool false)) (step_pick_yes (y := .const (.bool false)) (by kernel_rfl) (Opd.of_base 144 rfl) (Opd.of_base 146 rfl) rfl) (by kernel_rfl) (by decide) h ?_
  clear h
  intro a w h
  refine env_one (i := 6) (d := 148) (k := .val (.bool false)) (step_move (by kernel_rfl) (Opd.of_base 147 rfl) rfl) (by kernel_rfl) (by decide) h ?_
  clear h
  intro a w h
  refine env_guard (i := 7) (d := 149) (g := 6) (dg := 148) (b := false) (k := .val (.bool true)) (step_move (by kernel_rfl) (Opd.of_base 10 rfl) (by rw [b1]; rfl)) (by kernel_rfl) (by decide) (by kernel_rfl) (by decide) rfl h ?_
  clear h
  intro a w h
  refine env_guard (i := 8) (d := 150) (g := 6) (dg := 148) (b := false) (k := .val (.bool false)) (step_not (by kernel_rfl) (Opd.of_base 149 rfl) rfl) (by kernel_rfl) (by decide) (by kernel_rfl) (by decide) rfl h ?_
  clear h
  intro a w h
  refine env_guard (i := 9) (d := 151) (g := 6) (dg := 148) (b := false) (k := .val (.bool false)) (step_move (by kernel_rfl) (Opd.of_base 150 rfl) rfl) (by kernel_rfl) (by decide) (by kernel_rfl) (by decide) rfl h ?_
  clear h
  intro a w h
  refine env_skip (i := 10) (d := 152) (g := 9) (dg := 151) (b := true) (by kernel_rfl) (by decide) (by kernel_rfl) rfl rfl h ?_
  clear h
  intro a w h
  refine env_skip (i := 11) (d := 153) (g := 9) (dg := 151) (b := true) (by kernel_rfl) (by decide) (by kernel_rfl) rfl rfl h ?_
  clear h
  intro a w h
  refine env_guard (i := 12) (d := 154) (g := 6) (dg := 148) (b := false) (k := .val (.bool false)) (step_pick_no (x := .tmp 153) (by kernel_rfl) (Opd.of_base 151 rfl) (Opd.const _) rfl) (by kernel_rfl) (by decide) (by kernel_rfl) (by decide) rfl h ?_
  clear h
  intro a w h
  refine env_one (i := 13) (d := 155) (k := .val (.bool false)) (step_pick_no (x := .const (.bool true)) (by kernel_rfl) (Opd.of_base 148 rfl) (Opd.of_base 154 rfl) rfl) (by kernel_rfl) (by decide) h ?_
  clear h
  intro a w h
  refine env_one (i := 14) (d := 156) (k := .val (.bool false)) (step_move (by kernel_rfl) (Opd.of_base 155 rfl) rfl) (by kernel_rfl) (by decide) h ?_
  clear h
  intro a w h
  refine env_guard (i := 15) (d := 157) (g := 14) (dg := 156) (b := false) (k := .val (.bool false)) (step_move (by kernel_rfl) (Opd.of_base 17 rfl) (by rw [b4]; rfl)) (by kernel_rfl) (by decide) (by kernel_rfl) (by decide) rfl h ?_
  clear h
  intro a w h
  refine env_guard (i := 16) (d := 158) (g := 14) (dg := 156) (b := false) (k := .val (.bool true)) (step_not (by kernel_rfl) (Opd.of_base 157 rfl) rfl) (by kernel_rfl) (by decide) (by kernel_rfl) (by decide) rfl h ?_
  clear h
  intro a w h
  refine env_guard (i := 17) (d := 159) (g := 14) (dg := 156) (b := false) (k := .val (.bool true)) (step_move (by kernel_rfl) (Opd.of_base 158 rfl) rfl) (by kernel_rfl) (by decide) (by kernel_rfl) (by decide) rfl h ?_
  clear h
  intro a w h
  refine env_guard (i := 18) (d := 160) (g := 17) (dg := 159) (b := true) (k := .sat (nR (s2 + 1) none .nil)) (step_move (by kernel_rfl) (Opd.of_base 15 rfl) (by rw [Bl.list_zero b4]; rfl)) (by kernel_rfl) (by decide) (by kernel_rfl) (by decide) rfl h ?_
  clear h
  intro a w h
  refine env_guard (i := 19) (d := 161) (g := 17) (dg := 159) (b := true) (k := .val (.int .i64 ((Tm.len .nil : Nat) : Int))) (step_len_row (by kernel_rfl) (Opd.ofR (Opd.of_base 160 rfl)) rfl) (by kernel_rfl) (by decide) (by kernel_rfl) (by decide) rfl h ?_
  clear h
  intro a w h
  refine env_guard (i := 20) (d := 162) (g := 17) (dg := 159) (b := true) (k := .val (.bool false)) (step_ne_int (m := ((Tm.len .nil : Nat) : Int)) (n := 0) (by kernel_rfl) (Opd.of_base 161 rfl) (Opd.const _) rfl rfl) (by kernel_rfl) (by decide) (by kernel_rfl) (by decide) rfl h ?_
  clear h
  intro a w h
  refine env_guard (i := 21) (d := 163) (g := 14) (dg := 156) (b := false) (k := .val (.bool false)) (step_pick_yes (y := .const (.bool false)) (by kernel_rfl) (Opd.of_base 159 rfl) (Opd.of_base 162 rfl) rfl) (by kernel_rfl) (by decide) (by kernel_rfl) (by decide) rfl h ?_
  clear h
  intro a w h
  refine env_one (i := 22) (d := 164) (k := .val (.bool false)) (step_pick_no (x := .const (.bool true)) (by kernel_rfl) (Opd.of_base 156 rfl) (Opd.of_base 163 rfl) rfl) (by kernel_rfl) (by decide) h ?_
  clear h
  intro a w h
  refine env_one (i := 23) (d := 165) (k := .val (.bool false)) (step_move (by kernel_rfl) (Opd.of_base 164 rfl) rfl) (by kernel_rfl) (by decide) h ?_
  clear h
  intro a w h
  refine env_guard (i := 24) (d := 166) (g := 23) (dg := 165) (b := false) (k := .val (.bool false)) (step_move (by kernel_rfl) (Opd.of_base 20 rfl) (by rw [b5]; rfl)) (by kernel_rfl) (by decide) (by kernel_rfl) (by decide) rfl h ?_
  clear h
  intro a w h
  refine env_guard (i := 25) (d := 167) (g := 23) (dg := 165) (b := false) (k := .val (.bool true)) (step_not (by kernel_rfl) (Opd.of_base 166 rfl) rfl) (by kernel_rfl) (by decide) (by kernel_rfl) (by decide) rfl h ?_
  clear h
  intro a w h
  refine env_guard (i := 26) (d := 168) (g := 23) (dg := 165) (b := false) (k := .val (.bool true)) (step_move (by kernel_rfl) (Opd.of_base 167 rfl) rfl) (by kernel_rfl) (by decide) (by kernel_rfl) (by decide) rfl h ?_
  clear h
  intro a w h
  refine env_guard (i := 27) (d := 169) (g := 26) (dg := 168) (b := true) (k := .val (.int .i64 0)) (step_move (by kernel_rfl) (Opd.of_base 18 rfl) (by rw [Bl.char_zero b5]; rfl)) (by kernel_rfl) (by decide) (by kernel_rfl) (by decide) rfl h ?_
  clear h
  intro a w h
  refine env_guard (i := 28) (d := 170) (g := 26) (dg := 168) (b := true) (k := .val (.bool false)) (step_ne_int (m := 0) (n := 0) (by kernel_rfl) (Opd.of_base 169 rfl) (Opd.const _) (by simp) rfl) (by kernel_rfl) (by decide) (by kernel_rfl) (by decide) rfl h ?_
  clear h
  intro a w h
  refine env_guard (i := 29) (d := 171) (g := 23) (dg := 165) (b := false) (k := .val (.bool false)) (step_pick_yes (y := .const (.bool false)) (by kernel_rfl) (Opd.of_base 168 rfl) (Opd.of_base 170 rfl) rfl) (by kernel_rfl) (by decide) (by kernel_rfl) (by decide) rfl h ?_
  clear h
  intro a w h
  refine env_one (i := 30) (d := 172) (k := .val (.bool false)) (step_pick_no (x := .const (.bool true)) (by kernel_rfl) (Opd.of_base 165 rfl) (Opd.of_base 171 rfl) rfl) (by kernel_rfl) (by decide) h ?_
  clear h
  intro a w h
  refine env_one (i := 31) (d := 173) (k := .val (.bool false)) (step_move (by kernel_rfl) (Opd.of_base 172 rfl) rfl) (by kernel_rfl) (by decide) h ?_
  clear h
  intro a w h
  refine env_guard (i := 32) (d := 174) (g := 31) (dg := 173) (b := false) (k := .val (.bool false)) (step_move (by kernel_rfl) (Opd.of_base 23 rfl) (by rw [b6]; rfl)) (by kernel_rfl) (by decide) (by kernel_rfl) (by decide) rfl h ?_
  clear h
  intro a w h
  refine env_guard (i := 33) (d := 175) (g := 31) (dg := 173) (b := false) (k := .val (.bool true)) (step_not (by kernel_rfl) (Opd.of_base 174 rfl) rfl) (by kernel_rfl) (by decide) (by kernel_rfl) (by decide) rfl h ?_
  clear h
  intro a w h
  refine env_guard (i := 34) (d := 176) (g := 31) (dg := 173) (b := false) (k := .val (.bool true)) (step_move (by kernel_rfl) (Opd.of_base 175 rfl) rfl) (by kernel_rfl) (by decide) (by kernel_rfl) (by decide) rfl h ?_
  clear h
  intro a w h
  refine env_guard (i := 35) (d := 177) (g := 34) (dg := 176) (b := true) (k := .val (.int .i64 0)) (step_move (by kernel_rfl) (Opd.of_base 21 rfl) (by rw [Bl.code_zero b6]; rfl)) (by kernel_rfl) (by decide) (by kernel_rfl) (by decide) rfl h ?_
  clear h
  intro a w h
  refine env_guard (i := 36) (d := 178) (g := 34) (dg := 176) (b := true) (k := .val (.bool false)) (step_ne_int (m := 0) (n := 0) (by kernel_rfl) (Opd.of_base 177 rfl) (Opd.const _) (by simp) rfl) (by kernel_rfl) (by decide) (by kernel_rfl) (by decide) rfl h ?_
  clear h
  intro a w h
  refine env_guard (i := 37) (d := 179) (g := 31) (dg := 173) (b := false) (k := .val (.bool false)) (step_pick_yes (y := .const (.bool false)) (by kernel_rfl) (Opd.of_base 176 rfl) (Opd.of_base 178 rfl) rfl) (by kernel_rfl) (by decide) (by kernel_rfl) (by decide) rfl h ?_
  clear h
  intro a w h
  refine env_one (i := 38) (d := 180) (k := .val (.bool false)) (step_pick_no (x := .const (.bool true)) (by kernel_rfl) (Opd.of_base 173 rfl) (Opd.of_base 179 rfl) rfl) (by kernel_rfl) (by decide) h ?_
  clear h
  intro a w h
  refine env_one (i := 39) (d := 181) (k := .val (.bool false)) (step_move (by kernel_rfl) (Opd.of_base 180 rfl) rfl) (by kernel_rfl) (by decide) h ?_
  clear h
  intro a w h
  refine env_guard (i := 40) (d := 182) (g := 39) (dg := 181) (b := false) (k := .val (.bool false)) (step_move (by kernel_rfl) (Opd.of_base 27 rfl) (by rw [b7]; rfl)) (by kernel_rfl) (by decide) (by kernel_rfl) (by decide) rfl h ?_
  clear h
  intro a w h
  refine env_guard (i := 41) (d := 183) (g := 39) (dg := 181) (b := false) (k := .val (.bool true)) (step_not (by kernel_rfl) (Opd.of_base 182 rfl) rfl) (by kernel_rfl) (by decide) (by kernel_rfl) (by decide) rfl h ?_
  clear h
  intro a w h
  refine env_guard (i := 42) (d := 184) (g := 39) (dg := 181) (b := false) (k := .val (.bool true)) (step_move (by kernel_rfl) (Opd.of_base 183 rfl) rfl) (by kernel_rfl) (by decide) (by kernel_rfl) (by decide) rfl h ?_
  clear h
  intro a w h
  refine env_guard (i := 43) (d := 185) (g := 42) (dg := 184) (b := true) (k := .val (.int .i64 0)) (step_move (by kernel_rfl) (Opd.of_base 25 rfl) (by rw [Bl.ind_zero b7]; rfl)) (by kernel_rfl) (by decide) (by kernel_rfl) (by decide) rfl h ?_
  clear h
  intro a w h
  refine env_guard (i := 44) (d := 186) (g := 42) (dg := 184) (b := true) (k := .val (.bool false)) (step_ne_int (m := 0) (n := 0) (by kernel_rfl) (Opd.of_base 185 rfl) (Opd.const _) (by simp) rfl) (by kernel_rfl) (by decide) (by kernel_rfl) (by decide) rfl h ?_
  clear h
  intro a w h
  refine env_guard (i := 45) (d := 187) (g := 39) (dg := 181) (b := false) (k := .val (.bool false)) (step_pick_yes (y := .const (.bool false)) (by kernel_rfl) (Opd.of_base 184 rfl) (Opd.of_base 186 rfl) rfl) (by kernel_rfl) (by decide) (by kernel_rfl) (by decide) rfl h ?_
  clear h
  intro a w h
  refine env_one (i := 46) (d := 188) (k := .val (.bool false)) (step_pick_no (x := .const (.bool true)) (by kernel_rfl) (Opd.of_base 181 rfl) (Opd.of_base 187 rfl) rfl) (by kernel_rfl) (by decide) h ?_
  clear h
  intro a w h
  exact hQ a w (h.keep [1, 2, 3, 990, 5, 7, 8, 10, 12, 14, 18, 20, 21, 23, 28, 188])
theorem lChecks20j_region {Q : Exit → Act → World → Prop} (p0 : Pay) (l0 : Fo) (s : Nat) (s2 : Nat) (b0 : (Bl.atom p0 l0).2.2 = false) (b1 : (Bl.int p0 l0).2.2 = true) (b4 : (Bl.list p0 l0).2.2 = false) (b5 : (Bl.char p0 l0).2.2 = false) (b6 : (Bl.code p0 l0).2.2 = true) (b7 : (Bl.ind p0 l0).2.2.2 = false) {w0 : World} {a : Act} {w : World} (h : Hold 275 [(1, .sat (oP s p0 l0)), (2, .val (.bool false)), (3, .sat (aB (s2 + 1) (Bl.bs p0 l0))), (990, .sat (gP (s2 + 1) none)), (5, .val (.string (Bl.atom p0 l0).1)), (7, .val (.bool ((Bl.atom p0 l0).2.2))), (8, .val (.int .i64 (Bl.int p0 l0).1)), (10, .val (.bool ((Bl.int p0 l0).2.2))), (12, .val (.bool ((Bl.callable p0 l0).2))), (14, .val (.bool ((Bl.atomic p0 l0).2))), (15, .sat (nR (s2 + 1) none ((Bl.list p0 l0).1))), (17, .val (.bool ((Bl.list p0 l0).2.2))), (18, .val (.int .i64 (Bl.char p0 l0).1)), (20, .val (.bool ((Bl.char p0 l0).2.2))), (21, .val (.int .i64 (Bl.code p0 l0).1)), (23, .val (.bool ((Bl.code p0 l0).2.2))), (25, .val (.int .i64 (Bl.ind p0 l0).2.1)), (27, .val (.bool ((Bl.ind p0 l0).2.2.2))), (28, .val (.bool (Tm.validB p0 l0)))] w0 a w)
    (hQ : ∀ a' w', Hold 275 [(1, .sat (oP s p0 l0)), (2, .val (.bool false)), (3, .sat (aB (s2 + 1) (Bl.bs p0 l0))), (990, .sat (gP (s2 + 1) none)), (5, .val (.string (Bl.atom p0 l0).1)), (7, .val (.bool ((Bl.atom p0 l0).2.2))), (8, .val (.int .i64 (Bl.int p0 l0).1)), (10, .val (.bool ((Bl.int p0 l0).2.2))), (12, .val (.bool ((Bl.callable p0 l0).2))), (14, .val (.bool ((Bl.atomic p0 l0).2))), (18, .val (.int .i64 (Bl.char p0 l0).1)), (20, .val (.bool ((Bl.char p0 l0).2.2))), (21, .val (.int .i64 (Bl.code p0 l0).1)), (23, .val (.bool ((Bl.code p0 l0).2.2))), (28, .val (.bool (Tm.validB p0 l0))), (188, .val (.bool false))] w0 a' w' → Q .normal a' w') : (Code.region 20 lChecks20Ops false).wp Try.prog Q a w := by
  refine region_seq (w0 := w) 47 (by kernel_rfl) ?_
  rw [show List.range 47 = [0, 1, 2, 3, 4, 5, 6, 7, 8, 9, 10, 11, 12, 13, 14, 15, 16, 17, 18, 19, 20, 21, 22, 23, 24, 25, 26, 27, 28, 29, 30, 31, 32, 33, 34, 35, 36, 37, 38, 39, 40, 41, 42, 43, 44, 45, 46] from rfl]
  refine env_one (i := 0) (d := 142) (k := .val (.bool false)) (step_move (by kernel_rfl) (Opd.of_base 7 rfl) (by rw [b0]; rfl)) (by kernel_rfl) (by decide) h ?_
  clear h
  intro a w h
  refine env_one (i := 1) (d := 143) (k := .val (.bool true)) (step_not (by kernel_rfl) (Opd.of_base 142 rfl) rfl) (by kernel_rfl) (by decide) h ?_
  clear h
  intro a w h
  refine env_one (i := 2) (d := 144) (k := .val (.bool true)) (step_move (by kernel_rfl) (Opd.of_base 143 rfl) rfl) (by kernel_rfl) (by decide) h ?_
  clear h
  intro a w h
  refine env_guard (i := 3) (d := 145) (g := 2) (dg := 144) (b := true) (k := .val (.string ⟨#[]⟩)) (step_move (by kernel_rfl) (Opd.of_base 5 rfl) (by rw [Bl.atom_zero b0]; rfl)) (by kernel_rfl) (by decide) (by kernel_rfl) (by decide) rfl h ?_
  clear h
  intro a w h
  refine env_guard (i := 4) (d := 146) (g := 2) (dg := 144) (b := true) (k := .val (.bool false)) (step_ne_str (s := ⟨#[]⟩) (t := ⟨#[]⟩) (by kernel_rfl) (Opd.of_base 145 rfl) (Opd.const _) (by simp) rfl) (by kernel_rfl) (by decide) (by kernel_rfl) (by decide) rfl h ?_
  clear h
  intro a w h
  refine env_one (i := 5) (d := 147) (k := .val (.bool false)) (step_pick_yes (y := .const (.bool false)) (by kernel_rfl) (Opd.of_base 144 rfl) (Opd.of_base 146 rfl) rfl) (by kernel_rfl) (by decide) h ?_
  clear h
  intro a w h
  refine env_one (i := 6) (d := 148) (k := .val (.bool false)) (step_move (by kernel_rfl) (Opd.of_base 147 rfl) rfl) (by kernel_rfl) (by decide) h ?_
  clear h
  intro a w h
  refine env_guard (i := 7) (d := 149) (g := 6) (dg := 148) (b := false) (k := .val (.bool true)) (step_move (by kernel_rfl) (Opd.of_base 10 rfl) (by rw [b1]; rfl)) (by kernel_rfl) (by decide) (by kernel_rfl) (by decide) rfl h ?_
  clear h
  intro a w h
  refine env_guard (i := 8) (d := 150) (g := 6) (dg := 148) (b := false) (k := .val (.bool false)) (step_not (by kernel_rfl) (Opd.of_base 149 rfl) rfl) (by kernel_rfl) (by decide) (by kernel_rfl) (by decide) rfl h ?_
  clear h
  intro a w h
  refine env_guard (i := 9) (d := 151) (g := 6) (dg := 148) (b := false) (k := .val (.bool false)) (step_move (by kernel_rfl) (Opd.of_base 150 rfl) rfl) (by kernel_rfl) (by decide) (by kernel_rfl) (by decide) rfl h ?_
  clear h
  intro a w h
  refine env_skip (i := 10) (d := 152) (g := 9) (dg := 151) (b := true) (by kernel_rfl) (by decide) (by kernel_rfl) rfl rfl h ?_
  clear h
  intro a w h
  refine env_skip (i := 11) (d := 153) (g := 9) (dg := 151) (b := true) (by kernel_rfl) (by decide) (by kernel_rfl) rfl rfl h ?_
  clear h
  intro a w h
  refine env_guard (i := 12) (d := 154) (g := 6) (dg := 148) (b := false) (k := .val (.bool false)) (step_pick_no (x := .tmp 153) (by kernel_rfl) (Opd.of_base 151 rfl) (Opd.const _) rfl) (by kernel_rfl) (by decide) (by kernel_rfl) (by decide) rfl h ?_
  clear h
  intro a w h
  refine env_one (i := 13) (d := 155) (k := .val (.bool false)) (step_pick_no (x := .const (.bool true)) (by kernel_rfl) (Opd.of_base 148 rfl) (Opd.of_base 154 rfl) rfl) (by kernel_rfl) (by decide) h ?_
  clear h
  intro a w h
  refine env_one (i := 14) (d := 156) (k := .val (.bool false)) (step_move (by kernel_rfl) (Opd.of_base 155 rfl) rfl) (by kernel_rfl) (by decide) h ?_
  clear h
  intro a w h
  refine env_guard (i := 15) (d := 157) (g := 14) (dg := 156) (b := false) (k := .val (.bool false)) (step_move (by kernel_rfl) (Opd.of_base 17 rfl) (by rw [b4]; rfl)) (by kernel_rfl) (by decide) (by kernel_rfl) (by decide) rfl h ?_
  clear h
  intro a w h
  refine env_guard (i := 16) (d := 158) (g := 14) (dg := 156) (b := false) (k := .val (.bool true)) (step_not (by kernel_rfl) (Opd.of_base 157 rfl) rfl) (by kernel_rfl) (by decide) (by kernel_rfl) (by decide) rfl h ?_
  clear h
  intro a w h
  refine env_guard (i := 17) (d := 159) (g := 14) (dg := 156) (b := false) (k := .val (.bool true)) (step_move (by kernel_rfl) (Opd.of_base 158 rfl) rfl) (by kernel_rfl) (by decide) (by kernel_rfl) (by decide) rfl h ?_
  clear h
  intro a w h
  refine env_guard (i := 18) (d := 160) (g := 17) (dg := 159) (b := true) (k := .sat (nR (s2 + 1) none .nil)) (step_move (by kernel_rfl) (Opd.of_base 15 rfl) (by rw [Bl.list_zero b4]; rfl)) (by kernel_rfl) (by decide) (by kernel_rfl) (by decide) rfl h ?_
  clear h
  intro a w h
  refine env_guard (i := 19) (d := 161) (g := 17) (dg := 159) (b := true) (k := .val (.int .i64 ((Tm.len .nil : Nat) : Int))) (step_len_row (by kernel_rfl) (Opd.ofR (Opd.of_base 160 rfl)) rfl) (by kernel_rfl) (by decide) (by kernel_rfl) (by decide) rfl h ?_
  clear h
  intro a w h
  refine env_guard (i := 20) (d := 162) (g := 17) (dg := 159) (b := true) (k := .val (.bool false)) (step_ne_int (m := ((Tm.len .nil : Nat) : Int)) (n := 0) (by kernel_rfl) (Opd.of_base 161 rfl) (Opd.const _) rfl rfl) (by kernel_rfl) (by decide) (by kernel_rfl) (by decide) rfl h ?_
  clear h
  intro a w h
  refine env_guard (i := 21) (d := 163) (g := 14) (dg := 156) (b := false) (k := .val (.bool false)) (step_pick_yes (y := .const (.bool false)) (by kernel_rfl) (Opd.of_base 159 rfl) (Opd.of_base 162 rfl) rfl) (by kernel_rfl) (by decide) (by kernel_rfl) (by decide) rfl h ?_
  clear h
  intro a w h
  refine env_one (i := 22) (d := 164) (k := .val (.bool false)) (step_pick_no (x := .const (.bool true)) (by kernel_rfl) (Opd.of_base 156 rfl) (Opd.of_base 163 rfl) rfl) (by kernel_rfl) (by decide) h ?_
  clear h
  intro a w h
  refine env_one (i := 23) (d := 165) (k := .val (.bool false)) (step_move (by kernel_rfl) (Opd.of_base 164 rfl) rfl) (by kernel_rfl) (by decide) h ?_
  clear h
  intro a w h
  refine env_guard (i := 24) (d := 166) (g := 23) (dg := 165) (b := false) (k := .val (.bool false)) (step_move (by kernel_rfl) (Opd.of_base 20 rfl) (by rw [b5]; rfl)) (by kernel_rfl) (by decide) (by kernel_rfl) (by decide) rfl h ?_
  clear h
  intro a w h
  refine env_guard (i := 25) (d := 167) (g := 23) (dg := 165) (b := false) (k := .val (.bool true)) (step_not (by kernel_rfl) (Opd.of_base 166 rfl) rfl) (by kernel_rfl) (by decide) (by kernel_rfl) (by decide) rfl h ?_
  clear h
  intro a w h
  refine env_guard (i := 26) (d := 168) (g := 23) (dg := 165) (b := false) (k := .val (.bool true)) (step_move (by kernel_rfl) (Opd.of_base 167 rfl) rfl) (by kernel_rfl) (by decide) (by kernel_rfl) (by decide) rfl h ?_
  clear h
  intro a w h
  refine env_guard (i := 27) (d := 169) (g := 26) (dg := 168) (b := true) (k := .val (.int .i64 0)) (step_move (by kernel_rfl) (Opd.of_base 18 rfl) (by rw [Bl.char_zero b5]; rfl)) (by kernel_rfl) (by decide) (by kernel_rfl) (by decide) rfl h ?_
  clear h
  intro a w h
  refine env_guard (i := 28) (d := 170) (g := 26) (dg := 168) (b := true) (k := .val (.bool false)) (step_ne_int (m := 0) (n := 0) (by kernel_rfl) (Opd.of_base 169 rfl) (Opd.const _) (by simp) rfl) (by kernel_rfl) (by decide) (by kernel_rfl) (by decide) rfl h ?_
  clear h
  intro a w h
  refine env_guard (i := 29) (d := 171) (g := 23) (dg := 165) (b := false) (k := .val (.bool false)) (step_pick_yes (y := .const (.bool false)) (by kernel_rfl) (Opd.of_base 168 rfl) (Opd.of_base 170 rfl) rfl) (by kernel_rfl) (by decide) (by kernel_rfl) (by decide) rfl h ?_
  clear h
  intro a w h
  refine env_one (i := 30) (d := 172) (k := .val (.bool false)) (step_pick_no (x := .const (.bool true)) (by kernel_rfl) (Opd.of_base 165 rfl) (Opd.of_base 171 rfl) rfl) (by kernel_rfl) (by decide) h ?_
  clear h
  intro a w h
  refine env_one (i := 31) (d := 173) (k := .val (.bool false)) (step_move (by kernel_rfl) (Opd.of_base 172 rfl) rfl) (by kernel_rfl) (by decide) h ?_
  clear h
  intro a w h
  refine env_guard (i := 32) (d := 174) (g := 31) (dg := 173) (b := false) (k := .val (.bool true)) (step_move (by kernel_rfl) (Opd.of_base 23 rfl) (by rw [b6]; rfl)) (by kernel_rfl) (by decide) (by kernel_rfl) (by decide) rfl h ?_
  clear h
  intro a w h
  refine env_guard (i := 33) (d := 175) (g := 31) (dg := 173) (b := false) (k := .val (.bool false)) (step_not (by kernel_rfl) (Opd.of_base 174 rfl) rfl) (by kernel_rfl) (by decide) (by kernel_rfl) (by decide) rfl h ?_
  clear h
  intro a w h
  refine env_guard (i := 34) (d := 176) (g := 31) (dg := 173) (b := false) (k := .val (.bool false)) (step_move (by kernel_rfl) (Opd.of_base 175 rfl) rfl) (by kernel_rfl) (by decide) (by kernel_rfl) (by decide) rfl h ?_
  clear h
  intro a w h
  refine env_skip (i := 35) (d := 177) (g := 34) (dg := 176) (b := true) (by kernel_rfl) (by decide) (by kernel_rfl) rfl rfl h ?_
  clear h
  intro a w h
  refine env_skip (i := 36) (d := 178) (g := 34) (dg := 176) (b := true) (by kernel_rfl) (by decide) (by kernel_rfl) rfl rfl h ?_
  clear h
  intro a w h
  refine env_guard (i := 37) (d := 179) (g := 31) (dg := 173) (b := false) (k := .val (.bool false)) (step_pick_no (x := .tmp 178) (by kernel_rfl) (Opd.of_base 176 rfl) (Opd.const _) rfl) (by kernel_rfl) (by decide) (by kernel_rfl) (by decide) rfl h ?_
  clear h
  intro a w h
  refine env_one (i := 38) (d := 180) (k := .val (.bool false)) (step_pick_no (x := .const (.bool true)) (by kernel_rfl) (Opd.of_base 173 rfl) (Opd.of_base 179 rfl) rfl) (by kernel_rfl) (by decide) h ?_
  clear h
  intro a w h
  refine env_one (i := 39) (d := 181) (k := .val (.bool false)) (step_move (by kernel_rfl) (Opd.of_base 180 rfl) rfl) (by kernel_rfl) (by decide) h ?_
  clear h
  intro a w h
  refine env_guard (i := 40) (d := 182) (g := 39) (dg := 181) (b := false) (k := .val (.bool false)) (step_move (by kernel_rfl) (Opd.of_base 27 rfl) (by rw [b7]; rfl)) (by kernel_rfl) (by decide) (by kernel_rfl) (by decide) rfl h ?_
  clear h
  intro a w h
  refine env_guard (i := 41) (d := 183) (g := 39) (dg := 181) (b := false) (k := .val (.bool true)) (step_not (by kernel_rfl) (Opd.of_base 182 rfl) rfl) (by kernel_rfl) (by decide) (by kernel_rfl) (by decide) rfl h ?_
  clear h
  intro a w h
  refine env_guard (i := 42) (d := 184) (g := 39) (dg := 181) (b := false) (k := .val (.bool true)) (step_move (by kernel_rfl) (Opd.of_base 183 rfl) rfl) (by kernel_rfl) (by decide) (by kernel_rfl) (by decide) rfl h ?_
  clear h
  intro a w h
  refine env_guard (i := 43) (d := 185) (g := 42) (dg := 184) (b := true) (k := .val (.int .i64 0)) (step_move (by kernel_rfl) (Opd.of_base 25 rfl) (by rw [Bl.ind_zero b7]; rfl)) (by kernel_rfl) (by decide) (by kernel_rfl) (by decide) rfl h ?_
  clear h
  intro a w h
  refine env_guard (i := 44) (d := 186) (g := 42) (dg := 184) (b := true) (k := .val (.bool false)) (step_ne_int (m := 0) (n := 0) (by kernel_rfl) (Opd.of_base 185 rfl) (Opd.const _) (by simp) rfl) (by kernel_rfl) (by decide) (by kernel_rfl) (by decide) rfl h ?_
  clear h
  intro a w h
  refine env_guard (i := 45) (d := 187) (g := 39) (dg := 181) (b := false) (k := .val (.bool false)) (step_pick_yes (y := .const (.bool false)) (by kernel_rfl) (Opd.of_base 184 rfl) (Opd.of_base 186 rfl) rfl) (by kernel_rfl) (by decide) (by kernel_rfl) (by decide) rfl h ?_
  clear h
  intro a w h
  refine env_one (i := 46) (d := 188) (k := .val (.bool false)) (step_pick_no (x := .const (.bool true)) (by kernel_rfl) (Opd.of_base 181 rfl) (Opd.of_base 187 rfl) rfl) (by kernel_rfl) (by decide) h ?_
  clear h
  intro a w h
  exact hQ a w (h.keep [1, 2, 3, 990, 5, 7, 8, 10, 12, 14, 18, 20, 21, 23, 28, 188])
theorem lChecks20_all {Q : Exit → Act → World → Prop} (p0 : Pay) (l0 : Fo) (s : Nat) (s2 : Nat)  {w0 : World} {a : Act} {w : World} (h : Hold 275 [(1, .sat (oP s p0 l0)), (2, .val (.bool false)), (3, .sat (aB (s2 + 1) (Bl.bs p0 l0))), (990, .sat (gP (s2 + 1) none)), (5, .val (.string (Bl.atom p0 l0).1)), (7, .val (.bool ((Bl.atom p0 l0).2.2))), (8, .val (.int .i64 (Bl.int p0 l0).1)), (10, .val (.bool ((Bl.int p0 l0).2.2))), (12, .val (.bool ((Bl.callable p0 l0).2))), (14, .val (.bool ((Bl.atomic p0 l0).2))), (15, .sat (nR (s2 + 1) none ((Bl.list p0 l0).1))), (17, .val (.bool ((Bl.list p0 l0).2.2))), (18, .val (.int .i64 (Bl.char p0 l0).1)), (20, .val (.bool ((Bl.char p0 l0).2.2))), (21, .val (.int .i64 (Bl.code p0 l0).1)), (23, .val (.bool ((Bl.code p0 l0).2.2))), (25, .val (.int .i64 (Bl.ind p0 l0).2.1)), (27, .val (.bool ((Bl.ind p0 l0).2.2.2))), (28, .val (.bool (Tm.validB p0 l0)))] w0 a w)
    (hQ : ∀ a' w', Hold 275 [(1, .sat (oP s p0 l0)), (2, .val (.bool false)), (3, .sat (aB (s2 + 1) (Bl.bs p0 l0))), (990, .sat (gP (s2 + 1) none)), (5, .val (.string (Bl.atom p0 l0).1)), (7, .val (.bool ((Bl.atom p0 l0).2.2))), (8, .val (.int .i64 (Bl.int p0 l0).1)), (10, .val (.bool ((Bl.int p0 l0).2.2))), (12, .val (.bool ((Bl.callable p0 l0).2))), (14, .val (.bool ((Bl.atomic p0 l0).2))), (18, .val (.int .i64 (Bl.char p0 l0).1)), (20, .val (.bool ((Bl.char p0 l0).2.2))), (21, .val (.int .i64 (Bl.code p0 l0).1)), (23, .val (.bool ((Bl.code p0 l0).2.2))), (28, .val (.bool (Tm.validB p0 l0))), (188, .val (.bool false))] w0 a' w' → Q .normal a' w') : (Code.region 20 lChecks20Ops false).wp Try.prog Q a w := by
  rcases Bl.combos p0 l0 with ⟨b0, b1, b4, b5, b6, b7⟩ | ⟨b0, b1, b4, b5, b6, b7⟩ | ⟨b0, b1, b4, b5, b6, b7⟩ | ⟨b0, b1, b4, b5, b6, b7⟩ | ⟨b0, b1, b4, b5, b6, b7⟩ | ⟨b0, b1, b4, b5, b6, b7⟩ | ⟨b0, b1, b4, b5, b6, b7⟩ | ⟨b0, b1, b4, b5, b6, b7⟩ | ⟨b0, b1, b4, b5, b6, b7⟩ | ⟨b0, b1, b4, b5, b6, b7⟩
  · exact lChecks20a_region p0 l0 s s2 b0 b1 b4 b5 b6 b7 h hQ
  · exact lChecks20b_region p0 l0 s s2 b0 b1 b4 b5 b6 b7 h hQ
  · exact lChecks20c_region p0 l0 s s2 b0 b1 b4 b5 b6 b7 h hQ
  · exact lChecks20d_region p0 l0 s s2 b0 b1 b4 b5 b6 b7 h hQ
  · exact lChecks20e_region p0 l0 s s2 b0 b1 b4 b5 b6 b7 h hQ
  · exact lChecks20f_region p0 l0 s s2 b0 b1 b4 b5 b6 b7 h hQ
  · exact lChecks20g_region p0 l0 s s2 b0 b1 b4 b5 b6 b7 h hQ
  · exact lChecks20h_region p0 l0 s s2 b0 b1 b4 b5 b6 b7 h hQ
  · exact lChecks20i_region p0 l0 s s2 b0 b1 b4 b5 b6 b7 h hQ
  · exact lChecks20j_region p0 l0 s s2 b0 b1 b4 b5 b6 b7 h hQ
end Go.Proofs.Ytapcnehpechkpaa
