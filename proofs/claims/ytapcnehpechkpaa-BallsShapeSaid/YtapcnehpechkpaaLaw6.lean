/-
  The statements' own helpers.
-/
import Derived.Test.YtapcnehpechkpaaList6
namespace Go.Proofs.Ytapcnehpechkpaa
set_option linter.unusedVariables false
set_option linter.unusedSimpArgs false
set_option maxRecDepth 100000
open Go.RowKit
set_option maxHeartbeats 400000 in
theorem x_any (n : Int) (w : World) : Calls Try.prog 55 #[.int .i64 n] w fun e w' => e = .returned (tv (0, n, ByteArray.empty) none 0 0) ∧ Below w.heap.size w w' := by
  go_enter Try.func55, Try.ntmps55
  go_wp2_with fail
  have g1 : TermAt (w.alloc (.cells #[.int .i64 0, .int .i64 n, .string ⟨#[]⟩, .slice none 0 0] 24)) w.heap.size (0, n, ByteArray.empty) none 0 0 := TermAt.new w (0, n, ByteArray.empty) none 0 0 24
  refine bodyPost_ret (term_result (q := 2) rfl _ _ w.heap.size (0, n, ByteArray.empty) none 0 0 rfl g1) rfl ?_
  exact ⟨rfl, (Below.refl _ _).alloc (Nat.le_refl _) _⟩
set_option maxHeartbeats 400000 in
theorem n_any (n : Int) (w : World) : Calls Try.prog 60 #[.int .i64 n] w fun e w' => e = .returned (tv (1, n, ByteArray.empty) none 0 0) ∧ Below w.heap.size w w' := by
  go_enter Try.func60, Try.ntmps60
  go_wp2_with fail
  have g1 : TermAt (w.alloc (.cells #[.int .i64 1, .int .i64 n, .string ⟨#[]⟩, .slice none 0 0] 24)) w.heap.size (1, n, ByteArray.empty) none 0 0 := TermAt.new w (1, n, ByteArray.empty) none 0 0 24
  refine bodyPost_ret (term_result (q := 2) rfl _ _ w.heap.size (1, n, ByteArray.empty) none 0 0 rfl g1) rfl ?_
  exact ⟨rfl, (Below.refl _ _).alloc (Nat.le_refl _) _⟩
set_option maxHeartbeats 400000 in
theorem a_any (s : ByteArray) (w : World) : Calls Try.prog 53 #[.string s] w fun e w' => e = .returned (tv (2, 0, s) none 0 0) ∧ Below w.heap.size w w' := by
  go_enter Try.func53, Try.ntmps53
  go_wp2_with fail
  have g1 : TermAt (w.alloc (.cells #[.int .i64 2, .int .i64 0, .string s, .slice none 0 0] 24)) w.heap.size (2, 0, s) none 0 0 := TermAt.new w (2, 0, s) none 0 0 24
  refine bodyPost_ret (term_result (q := 2) rfl _ _ w.heap.size (2, 0, s) none 0 0 rfl g1) rfl ?_
  exact ⟨rfl, (Below.refl _ _).alloc (Nat.le_refl _) _⟩
set_option maxHeartbeats 400000 in
theorem f_any (s : ByteArray) (A : Option Addr) (n c : Nat) (w : World) : Calls Try.prog 58 #[.string s, .slice A n c] w fun e w' => e = .returned (tv (3, 0, s) A n c) ∧ Below w.heap.size w w' := by
  go_enter Try.func58, Try.ntmps58
  go_wp2_with fail
  have g1 : TermAt (w.alloc (.cells #[.int .i64 3, .int .i64 0, .string s, .slice A n c] 24)) w.heap.size (3, 0, s) A n c := TermAt.new w (3, 0, s) A n c 24
  refine bodyPost_ret (term_result (q := 4) rfl _ _ w.heap.size (3, 0, s) A n c rfl g1) rfl ?_
  exact ⟨rfl, (Below.refl _ _).alloc (Nat.le_refl _) _⟩

/-- Whether two rows hold the same valid terms. -/
def Tm.sameRows : Fo → Fo → Bool
  | .nil, .nil => true
  | .node p l r, .node q m s => (Tm.validB p l && Tm.sameT p l q m) && Tm.sameRows r s
  | _, _ => false
theorem Tm.sameRows_len : ∀ {F G : Fo}, Tm.len F ≠ Tm.len G → Tm.sameRows F G = false
  | .nil, .nil, h => absurd rfl h
  | .nil, .node _ _ _, _ => rfl
  | .node _ _ _, .nil, _ => rfl
  | .node p l r, .node q m s, h => by
    have : Tm.len r ≠ Tm.len s := fun e => h (by show Tm.len r + 1 = Tm.len s + 1; rw [e])
    show (_ && Tm.sameRows r s) = false
    rw [Tm.sameRows_len this, Bool.and_false]
theorem Tm.sameRows_refl : ∀ {F : Fo}, Tm.allV F = true → Tm.sameRows F F = true
  | .nil, _ => rfl
  | .node p l r, h => by
    have h2 : (Tm.validB p l && Tm.allV r) = true := h
    rw [Bool.and_eq_true] at h2
    show ((Tm.validB p l && Tm.sameT p l p l) && Tm.sameRows r r) = true
    rw [h2.1, Tm.sameT_refl, Tm.sameRows_refl h2.2]
    rfl
set_option maxHeartbeats 4000000 in
theorem sameAll_any (F G : Fo) (A A' : Option Addr) (n n' c c' B : Nat) (w : World) (hA : ArgsB w B A n F) (hA' : ArgsB w B A' n' G) (hn : n ≤ 4611686018427387904) (hB : B ≤ w.heap.size) :
    Calls Try.prog 30 #[.slice A n c, .slice A' n' c'] w fun e w' => e = .returned (.bool (Tm.sameRows F G)) ∧ Below w.heap.size w w' := by
  have hm : Try.prog.follows .mixedOrders = true := by kernel_rfl
  have HA := Lib.hid hA
  have HA' := Lib.hid hA'
  clear hA hA'
  by_cases hnn : n = n'
  · subst hnn
    have hn2 : n ≤ 9223372036854775807 := by omega
    go_enter Try.func30, Try.ntmps30
    go_wp2_with fail
    go_loopw [5] (fun u wr => ∃ k : Nat, k ≤ n ∧ u = .int .i64 k ∧ Hid (Tm.sameRows F G = Tm.sameRows (Tm.dropF F k) (Tm.dropF G k)) ∧ Below w.heap.size w wr) (fun u _ => n - (intOf u).toNat)
    case atStart => exact ⟨0, Nat.zero_le _, rfl, by show _ = _; rw [Tm.drop_zero, Tm.drop_zero], Below.refl _ _⟩
    case round =>
      obtain ⟨k, hk, rfl, HP, hbl⟩ := hrel
      have HBL := Lib.hid hbl
      clear hbl
      by_cases hlt : k < n
      · obtain ⟨bk, o, p1, l1, r1, A1, c1, rfl, hbB, hd, hnode⟩ := HA.out.at hlt
        obtain ⟨bk2, o2, p2, l2, r2, A2, c2, rfl, hbB2, hd2, hnode2⟩ := HA'.out.at hlt
        have hws := HBL.out.size
        have hbw : bk < w.heap.size := Nat.lt_of_lt_of_le hbB hB
        have hbw2 : bk2 < w.heap.size := Nat.lt_of_lt_of_le hbB2 hB
        have hbr : bk < wr.heap.size := by omega
        have hbr2 : bk2 < wr.heap.size := by omega
        have y0 := cell_bw (a := ⟨bk, o + k * 4, none⟩) hbr ((HBL.out.cell (p := ⟨bk, o + k * 4, none⟩) hbw).trans hnode.kind)
        have y1 := cell_bw (a := ⟨bk, o + k * 4 + 1, none⟩) hbr ((HBL.out.cell (p := ⟨bk, o + k * 4 + 1, none⟩) hbw).trans hnode.num)
        have y2 := cell_bw (a := ⟨bk, o + k * 4 + 2, none⟩) hbr ((HBL.out.cell (p := ⟨bk, o + k * 4 + 2, none⟩) hbw).trans hnode.name)
        have y3 := cell_bw (a := ⟨bk, o + k * 4 + 3, none⟩) hbr ((HBL.out.cell (p := ⟨bk, o + k * 4 + 3, none⟩) hbw).trans hnode.args)
        have z0 := cell_bw (a := ⟨bk2, o2 + k * 4, none⟩) hbr2 ((HBL.out.cell (p := ⟨bk2, o2 + k * 4, none⟩) hbw2).trans hnode2.kind)
        have z1 := cell_bw (a := ⟨bk2, o2 + k * 4 + 1, none⟩) hbr2 ((HBL.out.cell (p := ⟨bk2, o2 + k * 4 + 1, none⟩) hbw2).trans hnode2.num)
        have z2 := cell_bw (a := ⟨bk2, o2 + k * 4 + 2, none⟩) hbr2 ((HBL.out.cell (p := ⟨bk2, o2 + k * 4 + 2, none⟩) hbw2).trans hnode2.name)
        have z3 := cell_bw (a := ⟨bk2, o2 + k * 4 + 3, none⟩) hbr2 ((HBL.out.cell (p := ⟨bk2, o2 + k * 4 + 3, none⟩) hbw2).trans hnode2.args)
        have hx1 : ArgsB wr wr.heap.size A1 (Tm.len l1) l1 := (hnode.inn.below HBL.out hB).up (by omega)
        have hx2 : ArgsB wr wr.heap.size A2 (Tm.len l2) l2 := (hnode2.inn.below HBL.out hB).up (by omega)
        have hk3 : ∀ q : Bw wr, Calls Try.prog 69 #[tv p1 A1 (Tm.len l1) c1, tv p2 A2 (Tm.len l2) c2] q.to fun e w' => e = .returned (.bool (Tm.validB p1 l1 && Tm.sameT p1 l1 p2 l2)) ∧ Below q.to.heap.size q.to w' := fun q =>
          rsame_any _ _ _ _ _ _ _ _ wr.heap.size q.to (hx1.below q.ok (Nat.le_refl _)) (hx2.below q.ok (Nat.le_refl _)) q.ok.size
        have hst : Tm.sameRows F G = ((Tm.validB p1 l1 && Tm.sameT p1 l1 p2 l2) && Tm.sameRows (Tm.dropF F (k + 1)) (Tm.dropF G (k + 1))) := by rw [HP.out, hd, hd2, Tm.drop_succ hd, Tm.drop_succ hd2]; rfl
        have HST := Lib.hid hst
        clear hnode hnode2 hd hd2 hx1 hx2 hst
        generalize (Tm.validB p1 l1 && Tm.sameT p1 l1 p2 l2) = v at hk3 HST
        generalize Tm.len l1 = m1 at y3 hk3
        generalize Tm.len l2 = m2 at z3 hk3
        cases v
        · have HN := Lib.hid (show Tm.sameRows F G = false by rw [HST.out]; rfl)
          go_wp2_with fail
          refine wp_region_bw hm (by kernel_rfl) ?_
          repeat (go_big_quiet_step (exact calls_bw (hk3 _)))
          refine wpQuiet_nil ?_
          intro _ hw'
          obtain ⟨pq, hw''⟩ := hw'
          subst hw''
          go_wp2_with fail
          go_ret
          refine ⟨?_, HBL.out.trans (pq.ok.mono hws)⟩
          rw [HN.out]
          rfl
        · have HN := Lib.hid (show Tm.sameRows F G = Tm.sameRows (Tm.dropF F (k + 1)) (Tm.dropF G (k + 1)) by rw [HST.out]; rfl)
          go_wp2_with fail
          refine wp_region_bw hm (by kernel_rfl) ?_
          repeat (go_big_quiet_step (exact calls_bw (hk3 _)))
          refine wpQuiet_nil ?_
          intro _ hw'
          obtain ⟨pq, hw''⟩ := hw'
          subst hw''
          go_wp2_with fail
          exact ⟨⟨k + 1, by omega, by go_num, HN.out, HBL.out.trans (pq.ok.mono hws)⟩, by simp [intOf]; omega⟩
      · obtain rfl : n = k := by omega
        go_wp2_with fail
        go_ret
        refine ⟨?_, HBL.out⟩
        have h1 : Tm.dropF F n = .nil := by rw [← HA.out.len, Tm.drop_end]
        have h2 : Tm.dropF G n = .nil := by rw [← HA'.out.len, Tm.drop_end]
        rw [HP.out, h1, h2]
        rfl
  · have hb : ((n : Int) != (n' : Int)) = true := by simp; omega
    have hs : Tm.sameRows F G = false := Tm.sameRows_len (by rw [HA.out.len, HA'.out.len]; exact hnn)
    rw [hs]
    clear hnn hs
    go_enter Try.func30, Try.ntmps30
    go_wp2_with fail
    go_ret
    exact ⟨rfl, Below.refl _ _⟩

section
variable {ops : Array Oper} {Q : Exit → Act → World → Prop} {N : Nat} {env : Env} {w0 w : World} {a : Act}
/-- A new variable, written behind two assignments. -/
theorem env_box5 {i d s e x e2 x2 : Nat} {k k2 : Kd} {rest : List Nat} {p : Pay} {l : Fo} (hop : (ops[i]?).map (fun o => (o.op, o.dst, o.guard)) = some (.alloc 24, some d, none)) (hN : d < N)
    (hop2 : (ops[i + 1]?).map (fun o => (o.op, o.dst, o.guard)) = some (.assign (.tmp x), some e, none)) (heN : e < N) (hx : look env x = some k) (hxd : x ≠ d) (hed : d ≠ e)
    (hop3 : (ops[i + 2]?).map (fun o => (o.op, o.dst, o.guard)) = some (.assign (.tmp x2), some e2, none)) (heN2 : e2 < N) (hx2 : look env x2 = some k2) (hxd2 : x2 ≠ d) (hxe2 : x2 ≠ e) (hed2 : d ≠ e2)
    (hst : (ops[i + 3]?).map (fun o => (o.op, o.dst, o.guard)) = some (.store 24 (.tmp d) (.tmp s), none, none)) (hne : s ≠ d) (hse : s ≠ e) (hse2 : s ≠ e2) (hs : look env s = some (.term p l)) (st : Hold N env w0 a w)
    (h : ∀ a' w', Hold N ((e2, k2) :: (e, k) :: (d, .ptrT p l) :: env) w0 a' w' → wpOps Try.prog ops Q rest a' w') : wpOps Try.prog ops Q (i :: (i + 1) :: (i + 2) :: (i + 3) :: rest) a w := by
  cases ho : ops[i]? with
  | none => rw [ho] at hop; cases hop
  | some o =>
  cases hoa : ops[i + 1]? with
  | none => rw [hoa] at hop2; cases hop2
  | some oa =>
  cases hob : ops[i + 2]? with
  | none => rw [hob] at hop3; cases hop3
  | some ob =>
  cases ho2 : ops[i + 3]? with
  | none => rw [ho2] at hst; cases hst
  | some o2 =>
    rw [ho] at hop
    rw [hoa] at hop2
    rw [hob] at hop3
    rw [ho2] at hst
    have hop := Option.some.inj hop
    have hop2 := Option.some.inj hop2
    have hop3 := Option.some.inj hop3
    have hst := Option.some.inj hst
    obtain ⟨dst, op, ty, pos, after, guard⟩ := o
    obtain ⟨dsta, opa, tya, posa, aftera, guarda⟩ := oa
    obtain ⟨dstb, opb, tyb, posb, afterb, guardb⟩ := ob
    obtain ⟨dst2, op2, ty2, pos2, after2, guard2⟩ := o2
    simp only [Prod.mk.injEq] at hop hop2 hop3 hst
    obtain ⟨e1, e2', e3⟩ := hst
    obtain ⟨e4, e5, e6⟩ := hop
    obtain ⟨e7, e8, e9⟩ := hop2
    obtain ⟨e10, e11, e12⟩ := hop3
    subst e1 e2' e3 e4 e5 e6 e7 e8 e9 e10 e11 e12
    obtain ⟨A, c, ev, ha⟩ := st.slots _ _ hs
    have hDi : d < a.tmps.size := by rw [st.size]; exact hN
    simp only [wpOps, ho, wanted_free (o := ⟨some d, _, ty, pos, after, none⟩) rfl, if_true]
    refine .inl (wp_alloc_op ?_)
    simp only [wpOps, hoa, wanted_free (o := ⟨some e, _, tya, posa, aftera, none⟩) rfl, if_true]
    refine .inl (wp_assign_op ?_)
    have evm : (a.put (some d) (.pointer (some ⟨w.heap.size, 0, none⟩))).eval (.tmp x) = a.tmps.getD x undef := put_other hxd
    rw [evm]
    simp only [wpOps, hob, wanted_free (o := ⟨some e2, _, tyb, posb, afterb, none⟩) rfl, if_true]
    refine .inl (wp_assign_op ?_)
    have evm2 : ((a.put (some d) (.pointer (some ⟨w.heap.size, 0, none⟩))).put (some e) (a.tmps.getD x undef)).eval (.tmp x2) = a.tmps.getD x2 undef := (put_other hxe2).trans (put_other hxd2)
    rw [evm2]
    simp only [wpOps, ho2, wanted_free (o := ⟨none, _, ty2, pos2, after2, none⟩) rfl, if_true]
    have ev1 : (((a.put (some d) (.pointer (some ⟨w.heap.size, 0, none⟩))).put (some e) (a.tmps.getD x undef)).put (some e2) (a.tmps.getD x2 undef)).eval (.tmp d) = .pointer (some ⟨w.heap.size, 0, none⟩) := (put_other hed2).trans ((put_other hed).trans (put_self hDi))
    have ev2 : (((a.put (some d) (.pointer (some ⟨w.heap.size, 0, none⟩))).put (some e) (a.tmps.getD x undef)).put (some e2) (a.tmps.getD x2 undef)).eval (.tmp s) = tv p A (Tm.len l) c := (put_other hse2).trans ((put_other hse).trans ((put_other hne).trans ev))
    refine .inl (wp_store_op p A (Tm.len l) c ev1 ev2 ?_)
    have hb : Below w.heap.size w (w.alloc (.cells #[.int .i64 p.1, .int .i64 p.2.1, .string p.2.2, .slice A (Tm.len l) c] 24)) := (Below.refl _ _).alloc (Nat.le_refl _) _
    have s1 := st.put (k := .ptrT p l) hN (box_R w p l A c ha) hb
    have s2 := s1.put (k := k) (v := a.tmps.getD x undef) heN (Kd.keep (st.slots _ _ hx) hb) (Below.refl _ _)
    exact h _ _ (s2.put (k := k2) (v := a.tmps.getD x2 undef) heN2 (Kd.keep (st.slots _ _ hx2) hb) (Below.refl _ _))
theorem Hold.cast {n : Nat} {G : Option Nat} {p : Pay} {l : Fo} (h : Hold N env w0 a w) (s : Nat) (hs : look env s = some (.sat (nT n G p l))) : Hold N ((s, .term p l) :: env) w0 a w :=
  ⟨h.size, h.defers, h.world, fun t k hk => by
    rw [look_cons] at hk
    by_cases e : s = t
    · subst e
      rw [if_pos (by simp)] at hk
      cases hk
      obtain ⟨A, c, e, ha⟩ := h.slots _ _ hs
      exact ⟨A, c, e, ha.low⟩
    · rw [if_neg (by simpa using e)] at hk
      exact h.slots t k hk⟩
end
/-- What a call returns, wherever it lies. -/
def Mk0 (p : Pay) (l : Fo) (w : World) (e : Ending) (w' : World) : Prop :=
  ∃ A c, e = .returned (tv p A (Tm.len l) c) ∧ ArgsIn (fun b => 0 ≤ b ∧ b < w'.heap.size) w' A (Tm.len l) l ∧ Below w.heap.size w w'
theorem lx_any (n : Int) (w : World) : Calls Try.prog 55 #[.int .i64 n] w (Makes (0, n, ByteArray.empty) .nil w) := (x_any n w).mono fun e w' ⟨he, hb⟩ => ⟨none, 0, he, ArgsIn.nil _ _ _, hb⟩
theorem ln_any (n : Int) (w : World) : Calls Try.prog 60 #[.int .i64 n] w (Makes (1, n, ByteArray.empty) .nil w) := (n_any n w).mono fun e w' ⟨he, hb⟩ => ⟨none, 0, he, ArgsIn.nil _ _ _, hb⟩
theorem la_any (s : ByteArray) (w : World) : Calls Try.prog 53 #[.string s] w (Makes (2, 0, s) .nil w) := (a_any s w).mono fun e w' ⟨he, hb⟩ => ⟨none, 0, he, ArgsIn.nil _ _ _, hb⟩
theorem rsame6_any (p : Pay) (l : Fo) (A : Option Addr) (c : Nat) (q : Pay) (m : Fo) (A' : Option Addr) (c' B : Nat) (w : World) (hA : ArgsB w B A (Tm.len l) l) (hA' : ArgsB w B A' (Tm.len m) m) (hB : B ≤ w.heap.size) :
    Calls Try.prog 69 #[tv p A (Tm.len l) c, tv q A' (Tm.len m) c'] w fun e w' => e = .returned (.bool (Tm.validB p l && Tm.sameT p l q m)) ∧ Below w.heap.size w w' := rsame_any p l A c q m A' c' B w hA hA' hB
theorem sameAll6_any (F0 : Fo) (A0 : Option Addr) (c0 : Nat) (F1 : Fo) (A1 : Option Addr) (c1 B : Nat) (w : World) (hA0 : ArgsB w B A0 (Tm.len F0) F0) (hA1 : ArgsB w B A1 (Tm.len F1) F1) (hB : B ≤ w.heap.size) (hn : Tm.len F0 ≤ 4611686018427387904) :
    Calls Try.prog 30 #[.slice A0 (Tm.len F0) c0, .slice A1 (Tm.len F1) c1] w fun e w' => e = .returned (.bool (Tm.sameRows F0 F1)) ∧ Below w.heap.size w w' := sameAll_any F0 F1 A0 A1 _ _ c0 c1 B w hA0 hA1 hn hB
section
variable {ops : Array Oper} {Q : Exit → Act → World → Prop} {E : Nat → Kd} {D : Nat → Nat} {base : Nat → Option Kd} {N : Nat}
theorem Opd.tR {i : Nat} {x : Operand} {F : Fo} (h : Opd ops E D base N i x (.row F)) : Opd ops E D base N i x (.sat (nR 0 none F)) := fun a w hc => by
  obtain ⟨A, c, e, ha⟩ := h a w hc
  exact ⟨A, c, e, ha.mono fun b hb => ⟨Nat.zero_le _, hb, fun e => by cases e⟩⟩
theorem step_mk0 {i f : Nat} {xs : Array Operand} {tys : Array TypeId} {p : Pay} {l : Fo} (hop : (ops[i]?).map (·.op) = some (.call { callee := .value (.func f), args := xs, argTypes := tys })) (he : ∀ (args : Array Value) (w : World), (callFunc f args).run Try.prog w = .ok (.enter f args) w)
    (hc : ∀ a w, Ctx ops E D base N i a w → Calls Try.prog f (xs.map a.eval) w (Mk0 p l w)) (hE : E i = .sat (nT 0 none p l)) : Step Try.prog ops Q E D base N i :=
  step_call hop he fun a w h => (hc a w h).mono fun e w' ⟨A, c, he, ha, hb⟩ => ⟨_, he, by rw [hE]; exact ⟨A, c, rfl, ha.mono fun b hb' => ⟨Nat.zero_le _, hb'.2, fun e => by cases e⟩⟩, hb⟩
theorem step_lf {i n : Nat} {G : Option Nat} {x y : Operand} {s : ByteArray} {F : Fo} (hop : (ops[i]?).map (·.op) = some (.call { callee := .value (.func 58), args := #[x, y], argTypes := #[9, 22] })) (hx : Opd ops E D base N i x (.val (.string s))) (hy : Opd ops E D base N i y (.sat (nR n G F))) (hE : E i = .sat (nT n G (3, 0, s) F)) : Step Try.prog ops Q E D base N i :=
  step_call hop (fun _ _ => by kernel_rfl) fun a w h => by
    have e0 : a.eval x = .string s := hx a w h
    obtain ⟨A, c, e, ha⟩ := hy a w h
    rw [show (#[x, y] : Array Operand).map a.eval = #[.string s, .slice A (Tm.len F) c] by rw [← e0, ← e]; simp]
    exact (f_any s A (Tm.len F) c w).mono fun e w' ⟨he, hbl⟩ => ⟨_, he, by rw [hE]; exact ⟨A, c, rfl, ha.ns hbl⟩, hbl⟩
theorem step_lx {i : Nat} {n g : Nat} {G : Option Nat} {x0 : Operand} {s0 : Int} (hop : (ops[i]?).map (·.op) = some (.call { callee := .value (.func 55), args := #[x0], argTypes := #[2] })) (h0 : Opd ops E D base N i x0 (.val (.int .i64 s0))) (hg : Opd ops E D base N i (.tmp g) (.sat (gP n G))) (hE : E i = .sat (nT n G (0, s0, ByteArray.empty) .nil)) : Step Try.prog ops Q E D base N i :=
  step_mk hop (fun _ _ => by kernel_rfl) hg (fun a w h => by
    have e0 : a.eval x0 = .int .i64 s0 := h0 a w h
    rw [show (#[x0] : Array Operand).map a.eval = #[.int .i64 s0] by rw [← e0]; simp]
    exact lx_any s0 w ) hE
theorem step_ln {i : Nat} {n g : Nat} {G : Option Nat} {x0 : Operand} {s0 : Int} (hop : (ops[i]?).map (·.op) = some (.call { callee := .value (.func 60), args := #[x0], argTypes := #[2] })) (h0 : Opd ops E D base N i x0 (.val (.int .i64 s0))) (hg : Opd ops E D base N i (.tmp g) (.sat (gP n G))) (hE : E i = .sat (nT n G (1, s0, ByteArray.empty) .nil)) : Step Try.prog ops Q E D base N i :=
  step_mk hop (fun _ _ => by kernel_rfl) hg (fun a w h => by
    have e0 : a.eval x0 = .int .i64 s0 := h0 a w h
    rw [show (#[x0] : Array Operand).map a.eval = #[.int .i64 s0] by rw [← e0]; simp]
    exact ln_any s0 w ) hE
theorem step_la {i : Nat} {n g : Nat} {G : Option Nat} {x0 : Operand} {s0 : ByteArray} (hop : (ops[i]?).map (·.op) = some (.call { callee := .value (.func 53), args := #[x0], argTypes := #[9] })) (h0 : Opd ops E D base N i x0 (.val (.string s0))) (hg : Opd ops E D base N i (.tmp g) (.sat (gP n G))) (hE : E i = .sat (nT n G (2, 0, s0) .nil)) : Step Try.prog ops Q E D base N i :=
  step_mk hop (fun _ _ => by kernel_rfl) hg (fun a w h => by
    have e0 : a.eval x0 = .string s0 := h0 a w h
    rw [show (#[x0] : Array Operand).map a.eval = #[.string s0] by rw [← e0]; simp]
    exact la_any s0 w ) hE
theorem step_sameAll6 {i : Nat} {x0 x1 : Operand} {F0 : Fo} {F1 : Fo} (hn : Tm.len F0 ≤ 4611686018427387904) (hop : (ops[i]?).map (·.op) = some (.call { callee := .value (.func 30), args := #[x0, x1], argTypes := #[22, 22] })) (h0 : Opd ops E D base N i x0 (.row F0)) (h1 : Opd ops E D base N i x1 (.row F1)) (hE : E i = .val ((.bool (Tm.sameRows F0 F1)))) : Step Try.prog ops Q E D base N i :=
  step_call hop (fun _ _ => by kernel_rfl) fun a w h => by
    obtain ⟨A0, c0, e0, ha0⟩ := h0 a w h
    obtain ⟨A1, c1, e1, ha1⟩ := h1 a w h
    rw [show (#[x0, x1] : Array Operand).map a.eval = #[.slice A0 (Tm.len F0) c0, .slice A1 (Tm.len F1) c1] by rw [← e0, ← e1]; simp]
    exact (sameAll6_any F0 A0 c0 F1 A1 c1 w.heap.size w ha0 ha1 (Nat.le_refl _) hn).mono fun e w' ⟨he, hbl⟩ => ⟨_, he, by rw [hE]; rfl, hbl⟩
theorem step_rsame6 {i : Nat} {x0 x1 : Operand} {p0 : Pay} {l0 : Fo} {p1 : Pay} {l1 : Fo} (hop : (ops[i]?).map (·.op) = some (.call { callee := .value (.func 69), args := #[x0, x1], argTypes := #[24, 24] })) (h0 : Opd ops E D base N i x0 (.term p0 l0)) (h1 : Opd ops E D base N i x1 (.term p1 l1)) (hE : E i = .val ((.bool (Tm.validB p0 l0 && Tm.sameT p0 l0 p1 l1)))) : Step Try.prog ops Q E D base N i :=
  step_call hop (fun _ _ => by kernel_rfl) fun a w h => by
    obtain ⟨A0, c0, e0, ha0⟩ := h0 a w h
    obtain ⟨A1, c1, e1, ha1⟩ := h1 a w h
    rw [show (#[x0, x1] : Array Operand).map a.eval = #[tv p0 A0 (Tm.len l0) c0, tv p1 A1 (Tm.len l1) c1] by rw [← e0, ← e1]; simp]
    exact (rsame6_any p0 l0 A0 c0 p1 l1 A1 c1 w.heap.size w ha0 ha1 (Nat.le_refl _)).mono fun e w' ⟨he, hbl⟩ => ⟨_, he, by rw [hE]; rfl, hbl⟩
end
noncomputable def lsame0Ops : Array Oper := ((Try.f34.body).bind (findReg 0)).getD #[]
noncomputable def lsame1Ops : Array Oper := ((Try.f34.body).bind (findReg 1)).getD #[]
theorem lsame_body : Try.f34.body = some (.seq (.region 0 lsame0Ops false) (.seq (.region 1 lsame1Ops false) .ret)) := by kernel_rfl
theorem lsame0a_region {Q : Exit → Act → World → Prop} (p0 : Pay) (l0 : Fo) (p1 : Pay) (l1 : Fo)  {w0 : World} {a : Act} {w : World} (h : Hold 8 [(0, .term p0 l0), (1, .term p1 l1)] w0 a w)
    (hQ : ∀ a' w', Hold 8 [(2, .ptrT p0 l0), (3, .ptrT p1 l1), (4, .val (.bool false))] w0 a' w' → Q .normal a' w') : (Code.region 0 lsame0Ops false).wp Try.prog Q a w := by
  refine region_seq (w0 := w) 3 (by kernel_rfl) ?_
  rw [show List.range 3 = [0, 1, 2] from rfl]
  refine env_one (i := 0) (d := 2) (k := .ptrT p0 l0) (step_box (by kernel_rfl) (Opd.of_base 0 rfl) rfl) (by kernel_rfl) (by decide) h ?_
  clear h
  intro a w h
  refine env_one (i := 1) (d := 3) (k := .ptrT p1 l1) (step_box (by kernel_rfl) (Opd.of_base 1 rfl) rfl) (by kernel_rfl) (by decide) h ?_
  clear h
  intro a w h
  refine env_one (i := 2) (d := 4) (k := .val (.bool false)) (step_assign (by kernel_rfl) (Opd.const _) rfl) (by kernel_rfl) (by decide) h ?_
  clear h
  intro a w h
  exact hQ a w (h.keep [2, 3, 4])
theorem lsame1a_region {Q : Exit → Act → World → Prop} (p0 : Pay) (l0 : Fo) (p1 : Pay) (l1 : Fo)  {w0 : World} {a : Act} {w : World} (h : Hold 8 [(2, .ptrT p0 l0), (3, .ptrT p1 l1), (4, .val (.bool false))] w0 a w)
    (hQ : ∀ a' w', Hold 8 [(4, .val (.bool (Tm.validB p0 l0 && Tm.sameT p0 l0 p1 l1)))] w0 a' w' → Q .normal a' w') : (Code.region 1 lsame1Ops false).wp Try.prog Q a w := by
  refine region_seq (w0 := w) 4 (by kernel_rfl) ?_
  rw [show List.range 4 = [0, 1, 2, 3] from rfl]
  refine env_one (i := 0) (d := 5) (k := .term p0 l0) (step_load_term (by kernel_rfl) (Opd.of_base 2 rfl) rfl) (by kernel_rfl) (by decide) h ?_
  clear h
  intro a w h
  refine env_one (i := 1) (d := 6) (k := .term p1 l1) (step_load_term (by kernel_rfl) (Opd.of_base 3 rfl) rfl) (by kernel_rfl) (by decide) h ?_
  clear h
  intro a w h
  refine env_one (i := 2) (d := 7) (k := .val (.bool (Tm.validB p0 l0 && Tm.sameT p0 l0 p1 l1))) (step_rsame6 (by kernel_rfl) (Opd.of_base 5 rfl) (Opd.of_base 6 rfl) rfl) (by kernel_rfl) (by decide) h ?_
  clear h
  intro a w h
  refine env_one (i := 3) (d := 4) (k := .val (.bool (Tm.validB p0 l0 && Tm.sameT p0 l0 p1 l1))) (step_assign (by kernel_rfl) (Opd.of_base 7 rfl) rfl) (by kernel_rfl) (by decide) h ?_
  clear h
  intro a w h
  exact hQ a w (h.keep [4])
set_option maxHeartbeats 1000000 in
theorem lsame_any (p0 : Pay) (l0 : Fo) (A0 : Option Addr) (c0 : Nat) (p1 : Pay) (l1 : Fo) (A1 : Option Addr) (c1 : Nat) (B : Nat) (w : World) (hA0 : ArgsB w B A0 (Tm.len l0) l0) (hA1 : ArgsB w B A1 (Tm.len l1) l1) (hB : B ≤ w.heap.size)  : Calls Try.prog 34 #[tv p0 A0 (Tm.len l0) c0, tv p1 A1 (Tm.len l1) c1] w (fun e w' => e = .returned (.bool (Tm.validB p0 l0 && Tm.sameT p0 l0 p1 l1)) ∧ Below w.heap.size w w') := by
  refine calls_of_wp Try.func34 lsame_body ?_
  obtain ⟨v0, hv0⟩ : ∃ v : Value, v = tv p0 A0 (Tm.len l0) c0 := ⟨_, rfl⟩
  obtain ⟨v1, hv1⟩ : ∃ v : Value, v = tv p1 A1 (Tm.len l1) c1 := ⟨_, rfl⟩
  rw [← hv0, ← hv1]
  have hk0 : (Kd.term p0 l0).R v0 w := by rw [hv0]; exact ⟨A0, c0, rfl, hA0.up hB⟩
  have hk1 : (Kd.term p1 l1).R v1 w := by rw [hv1]; exact ⟨A1, c1, rfl, hA1.up hB⟩
  have hsN : (#[v0, v1] ++ Array.replicate (Try.f34.ntmps - #[v0, v1].size) undef : Array Value).size = 8 := by kernel_rfl
  have gs0 : (#[v0, v1] ++ Array.replicate (Try.f34.ntmps - #[v0, v1].size) undef : Array Value).getD 0 undef = v0 := by kernel_rfl
  have gs1 : (#[v0, v1] ++ Array.replicate (Try.f34.ntmps - #[v0, v1].size) undef : Array Value).getD 1 undef = v1 := by kernel_rfl
  generalize (#[v0, v1] ++ Array.replicate (Try.f34.ntmps - #[v0, v1].size) undef : Array Value) = tm at hsN gs0 gs1 ⊢
  obtain ⟨a, ha0⟩ : ∃ a : Act, a = ⟨tm, []⟩ := ⟨_, rfl⟩
  have h : Hold 8 [(0, .term p0 l0), (1, .term p1 l1)] w ⟨tm, []⟩ w := ⟨hsN, rfl, Below.refl _ _, (slots_cons 0 (by rw [gs0]; exact hk0) (slots_cons 1 (by rw [gs1]; exact hk1) slots_nil))⟩
  refine wp_seq ?_
  refine lsame0a_region p0 l0 p1 l1  h ?_
  intro a w1 h
  show Code.wp _ _ _ a w1
  refine wp_seq ?_
  refine lsame1a_region p0 l0 p1 l1  h ?_
  intro a w1 h
  show Code.wp _ _ _ a w1
  refine wp_ret ?_
  (try simp only [then_ret, block_ret])
  exact law_out rfl (h.get 4 rfl) h.defers ⟨rfl, h.world⟩
section
variable {ops : Array Oper} {Q : Exit → Act → World → Prop} {E : Nat → Kd} {D : Nat → Nat} {base : Nat → Option Kd} {N : Nat}
theorem step_lsame {i : Nat} {x0 x1 : Operand} {p0 : Pay} {l0 : Fo} {p1 : Pay} {l1 : Fo} (hop : (ops[i]?).map (·.op) = some (.call { callee := .value (.func 34), args := #[x0, x1], argTypes := #[24, 24] })) (h0 : Opd ops E D base N i x0 (.term p0 l0)) (h1 : Opd ops E D base N i x1 (.term p1 l1)) (hE : E i = .val ((.bool (Tm.validB p0 l0 && Tm.sameT p0 l0 p1 l1)))) : Step Try.prog ops Q E D base N i :=
  step_call hop (fun _ _ => by kernel_rfl) fun a w h => by
    obtain ⟨A0, c0, e0, ha0⟩ := h0 a w h
    obtain ⟨A1, c1, e1, ha1⟩ := h1 a w h
    rw [show (#[x0, x1] : Array Operand).map a.eval = #[tv p0 A0 (Tm.len l0) c0, tv p1 A1 (Tm.len l1) c1] by rw [← e0, ← e1]; simp]
    exact (lsame_any p0 l0 A0 c0 p1 l1 A1 c1 w.heap.size w ha0 ha1 (Nat.le_refl _)).mono fun e w' ⟨he, hbl⟩ => ⟨_, he, by rw [hE]; rfl, hbl⟩
end
noncomputable def lerr0Ops : Array Oper := ((Try.f56.body).bind (findReg 0)).getD #[]
noncomputable def lerr1Ops : Array Oper := ((Try.f56.body).bind (findReg 1)).getD #[]
theorem lerr_body : Try.f56.body = some (.seq (.region 0 lerr0Ops false) (.seq (.region 1 lerr1Ops true) .ret)) := by kernel_rfl
theorem lerr0a_region {Q : Exit → Act → World → Prop} (p0 : Pay) (l0 : Fo)  {w0 : World} {a : Act} {w : World} (h : Hold 7 [(0, .term p0 l0)] w0 a w)
    (hQ : ∀ r a' w', w0.heap.size ≤ r → Hold 7 [(1, .sat (nP 0 (some r) p0 l0)), (2, .sat (rC 0 r zp .nil)), (990, .sat (gP 0 (some r)))] w0 a' w' → Q .normal a' w') : (Code.region 0 lerr0Ops false).wp Try.prog Q a w := by
  refine region_seq (w0 := w) 2 (by kernel_rfl) ?_
  rw [show List.range 2 = [0, 1] from rfl]
  refine env_one (i := 0) (d := 1) (k := .ptrT p0 l0) (step_box (by kernel_rfl) (Opd.of_base 0 rfl) rfl) (by kernel_rfl) (by decide) h ?_
  clear h
  intro a w h
  refine env_res (i := 1) (d := 2) (n := 0) (fun r => [(0, .sat (nT 0 (some r) p0 l0)), (1, .sat (nP 0 (some r) p0 l0))]) (by kernel_rfl) (by decide) (by decide) (Nat.zero_le _) (fun r => (goes_cons 0 rfl (turns_term _ _ _) (goes_cons 1 rfl (turns_ptr _ _ _) (goes_nil _ _)))) h ?_
  clear h
  intro r a w hr h
  exact hQ r a w hr (h.keep [1, 2, 990])
def lerr1aEs (p0 : Pay) (l0 : Fo) (r : Nat) : List Kd := [
  .sat (nT 0 (some r) p0 l0),
  .sat (nT 0 (some r) (2, 0, (⟨#[91, 93]⟩)) .nil),
  .sat (nK 0 (some r) (.node p0 l0 (.node (2, 0, (⟨#[91, 93]⟩)) .nil .nil))),
  .sat (nT 0 (some r) (3, 0, ⟨#[101, 114, 114, 111, 114]⟩) (.node p0 l0 (.node (2, 0, (⟨#[91, 93]⟩)) .nil .nil)))]
def lerr1aDs : List Nat := [3, 4, 5, 6]
def lerr1aEnv (p0 : Pay) (l0 : Fo) (r : Nat) : Env := [(1, .sat (nP 0 (some r) p0 l0)), (2, .sat (rC 0 r zp .nil)), (990, .sat (gP 0 (some r)))]
theorem lerr1a_0 {Q : Exit → Act → World → Prop} (p0 : Pay) (l0 : Fo) (r : Nat)  : RStep (strip lerr1Ops) Q (fun i => ((lerr1aEs p0 l0 r)[i]?).getD .any) (fun i => (lerr1aDs[i]?).getD (1000 + i)) (look (lerr1aEnv p0 l0 r)) 7 0 := fun _ => step_nload (by kernel_rfl) (Opd.of_base 1 rfl) rfl
theorem lerr1a_1 {Q : Exit → Act → World → Prop} (p0 : Pay) (l0 : Fo) (r : Nat)  : RStep (strip lerr1Ops) Q (fun i => ((lerr1aEs p0 l0 r)[i]?).getD .any) (fun i => (lerr1aDs[i]?).getD (1000 + i)) (look (lerr1aEnv p0 l0 r)) 7 1 := fun _ => step_la (g := 990) (by kernel_rfl) (Opd.const _) (Opd.of_base 990 rfl) rfl
theorem lerr1a_2 {Q : Exit → Act → World → Prop} (p0 : Pay) (l0 : Fo) (r : Nat)  : RStep (strip lerr1Ops) Q (fun i => ((lerr1aEs p0 l0 r)[i]?).getD .any) (fun i => (lerr1aDs[i]?).getD (1000 + i)) (look (lerr1aEnv p0 l0 r)) 7 2 := fun _ => step_nslice2 (g := 990) (by kernel_rfl) (Opd.dep 0 rfl rfl (by kernel_rfl)) (Opd.dep 1 rfl rfl (by kernel_rfl)) (Opd.of_base 990 rfl) rfl
theorem lerr1a_3 {Q : Exit → Act → World → Prop} (p0 : Pay) (l0 : Fo) (r : Nat)  : RStep (strip lerr1Ops) Q (fun i => ((lerr1aEs p0 l0 r)[i]?).getD .any) (fun i => (lerr1aDs[i]?).getD (1000 + i)) (look (lerr1aEnv p0 l0 r)) 7 3 := fun _ => step_lf (by kernel_rfl) (Opd.const _) (Opd.ofK (Opd.dep 2 rfl rfl (by kernel_rfl))) rfl
theorem lerr1a_region {Q : Exit → Act → World → Prop} (p0 : Pay) (l0 : Fo) (r : Nat)  {w0 : World} {a : Act} {w : World} (hr : w0.heap.size ≤ r) (h : Hold 7 [(1, .sat (nP 0 (some r) p0 l0)), (2, .sat (rC 0 r zp .nil)), (990, .sat (gP 0 (some r)))] w0 a w)
    (hQ : ∀ a' w', Hold 7 [(990, .sat (gP 0 (some r))), (2, .sat (rC 0 r (3, 0, ⟨#[101, 114, 114, 111, 114]⟩) (.node p0 l0 (.node (2, 0, (⟨#[91, 93]⟩)) .nil .nil))))] w0 a' w' → Q .normal a' w') : (Code.region 1 lerr1Ops true).wp Try.prog Q a w := by
  have hall : ∀ i, i < 0 → RStep (strip lerr1Ops) Q (fun i => ((lerr1aEs p0 l0 r)[i]?).getD .any) (fun i => (lerr1aDs[i]?).getD (1000 + i)) (look (lerr1aEnv p0 l0 r)) 7 i := fun i hi => absurd hi (by omega)
  have hall := below_succ hall (lerr1a_0 p0 l0 r )
  have hall := below_succ hall (lerr1a_1 p0 l0 r )
  have hall := below_succ hall (lerr1a_2 p0 l0 r )
  have hall := below_succ hall (lerr1a_3 p0 l0 r )
  refine env_then (m := 4) (n := 5) lerr1aDs (lerr1aEs p0 l0 r) rfl (by kernel_rfl) (by decide) (by kernel_rfl) (of_decide_eq_true (by kernel_rfl)) (by kernel_rfl) (by kernel_rfl) (fun i_ hi_ => hall i_ hi_) h fun a w h => ?_
  clear hall
  have h := h.keep [1, 2, 990, 3, 4, 5, 6]
  show wpOps Try.prog _ Q [4] a w
  refine env_store (i := 4) (x := 2) (y := 6) (r := r) [(1, .sat (nP 0 (some r) p0 l0)), (990, .sat (gP 0 (some r))), (3, .sat (nT 0 (some r) p0 l0)), (4, .sat (nT 0 (some r) (2, 0, (⟨#[91, 93]⟩)) .nil)), (5, .sat (nK 0 (some r) (.node p0 l0 (.node (2, 0, (⟨#[91, 93]⟩)) .nil .nil)))), (6, .sat (nT 0 (some r) (3, 0, ⟨#[101, 114, 114, 111, 114]⟩) (.node p0 l0 (.node (2, 0, (⟨#[91, 93]⟩)) .nil .nil))))] (by kernel_rfl) rfl rfl hr (stays_cons 1 rfl (away_nP _ _ _ _) (stays_cons 990 rfl (away_gP _ _ _) (stays_cons 3 rfl (away_nT _ _ _ _) (stays_cons 4 rfl (away_nT _ _ _ _) (stays_cons 5 rfl (away_nK _ _ _) (stays_cons 6 rfl (away_nT _ _ _ _) (stays_nil _ _))))))) h ?_
  clear h
  intro a w h
  exact hQ a w (h.keep [990, 2])
set_option maxHeartbeats 1000000 in
theorem lerr_any (p0 : Pay) (l0 : Fo) (A0 : Option Addr) (c0 : Nat) (B : Nat) (w : World) (hA0 : ArgsB w B A0 (Tm.len l0) l0) (hB : B ≤ w.heap.size)  : Calls Try.prog 56 #[tv p0 A0 (Tm.len l0) c0] w (Mk0 (3, 0, Tm.errName) (.node p0 l0 (.node Tm.emptyA .nil .nil)) w) := by
  refine calls_of_wp Try.func56 lerr_body ?_
  obtain ⟨v0, hv0⟩ : ∃ v : Value, v = tv p0 A0 (Tm.len l0) c0 := ⟨_, rfl⟩
  rw [← hv0]
  have hk0 : (Kd.term p0 l0).R v0 w := by rw [hv0]; exact ⟨A0, c0, rfl, hA0.up hB⟩
  have hsN : (#[v0] ++ Array.replicate (Try.f56.ntmps - #[v0].size) undef : Array Value).size = 7 := by kernel_rfl
  have gs0 : (#[v0] ++ Array.replicate (Try.f56.ntmps - #[v0].size) undef : Array Value).getD 0 undef = v0 := by kernel_rfl
  generalize (#[v0] ++ Array.replicate (Try.f56.ntmps - #[v0].size) undef : Array Value) = tm at hsN gs0 ⊢
  obtain ⟨a, ha0⟩ : ∃ a : Act, a = ⟨tm, []⟩ := ⟨_, rfl⟩
  have h : Hold 7 [(0, .term p0 l0)] w ⟨tm, []⟩ w := ⟨hsN, rfl, Below.refl _ _, (slots_cons 0 (by rw [gs0]; exact hk0) slots_nil)⟩
  refine wp_seq ?_
  refine lerr0a_region p0 l0  h ?_
  intro r a w1 hr h
  show Code.wp _ _ _ a w1
  refine wp_seq ?_
  refine lerr1a_region p0 l0 r  hr h ?_
  intro a w1 h
  show Code.wp _ _ _ a w1
  refine wp_ret ?_
  (try simp only [then_ret, block_ret])
  exact law_cell rfl (h.get 2 rfl) h.defers fun A c ha => ⟨A, c, rfl, ha.mono fun b hb => ⟨Nat.zero_le _, hb.2.1⟩, h.world⟩
section
variable {ops : Array Oper} {Q : Exit → Act → World → Prop} {E : Nat → Kd} {D : Nat → Nat} {base : Nat → Option Kd} {N : Nat}
theorem step_lerr {i : Nat} {x0 : Operand} {p0 : Pay} {l0 : Fo} (hop : (ops[i]?).map (·.op) = some (.call { callee := .value (.func 56), args := #[x0], argTypes := #[24] })) (h0 : Opd ops E D base N i x0 (.term p0 l0)) (hE : E i = .sat (nT 0 none (3, 0, Tm.errName) (.node p0 l0 (.node Tm.emptyA .nil .nil)))) : Step Try.prog ops Q E D base N i :=
  step_mk0 hop (fun _ _ => by kernel_rfl) (fun a w h => by
    obtain ⟨A0, c0, e0, ha0⟩ := h0 a w h
    rw [show (#[x0] : Array Operand).map a.eval = #[tv p0 A0 (Tm.len l0) c0] by rw [← e0]; simp]
    exact lerr_any p0 l0 A0 c0 w.heap.size w ha0 (Nat.le_refl _)) hE
end
end Go.Proofs.Ytapcnehpechkpaa
