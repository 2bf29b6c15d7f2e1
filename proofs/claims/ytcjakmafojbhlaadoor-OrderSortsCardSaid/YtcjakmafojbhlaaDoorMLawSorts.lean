/-
  The statement OrderSorts, as its function.
-/
import Derived.Test.YtcjakmafojbhlaaDoorMLawRanked
import Derived.Test.YtcjakmafojbhlaaDoorPartI
namespace Go.Proofs.YtcjakmafojbhlaaDoor
set_option linter.unusedVariables false
set_option linter.unusedSimpArgs false
open Go.RowKit
theorem bears_nil {env : Env} {d1 d2 : Nat} {X : Nat → Prop} : ∀ t k, look [] t = some k → t ≠ d1 ∧ t ≠ d2 ∧ look env t = some k ∧ k.Bears X := fun t k h => by cases h
theorem bears_cons {env env' : Env} {d1 d2 : Nat} {X : Nat → Prop} (t0 : Nat) {k0 : Kd} (hl : look env t0 = some k0) (h1 : t0 ≠ d1) (h2 : t0 ≠ d2) (hb : k0.Bears X) (h : ∀ t k, look env' t = some k → t ≠ d1 ∧ t ≠ d2 ∧ look env t = some k ∧ k.Bears X) : ∀ t k, look ((t0, k0) :: env') t = some k → t ≠ d1 ∧ t ≠ d2 ∧ look env t = some k ∧ k.Bears X := by
  intro t k hk
  rw [look_cons] at hk
  by_cases e : t0 = t
  · subst e
    rw [if_pos (by simp)] at hk
    cases hk
    exact ⟨h1, h2, hl, hb⟩
  · rw [if_neg (by simpa using e)] at hk
    exact h t k hk
noncomputable def so0Ops : Array Oper := ((Tryd.f4.body).bind (findReg 0)).getD #[]
noncomputable def so1Ops : Array Oper := ((Tryd.f4.body).bind (findReg 1)).getD #[]
noncomputable def so2Ops : Array Oper := ((Tryd.f4.body).bind (findReg 2)).getD #[]
noncomputable def so3Ops : Array Oper := ((Tryd.f4.body).bind (findReg 3)).getD #[]
noncomputable def so4Ops : Array Oper := ((Tryd.f4.body).bind (findReg 4)).getD #[]
noncomputable def so5Ops : Array Oper := ((Tryd.f4.body).bind (findReg 5)).getD #[]
noncomputable def so6Ops : Array Oper := ((Tryd.f4.body).bind (findReg 6)).getD #[]
noncomputable def so7Ops : Array Oper := ((Tryd.f4.body).bind (findReg 7)).getD #[]
noncomputable def so8Ops : Array Oper := ((Tryd.f4.body).bind (findReg 8)).getD #[]
noncomputable def so9Ops : Array Oper := ((Tryd.f4.body).bind (findReg 9)).getD #[]
noncomputable def so10Ops : Array Oper := ((Tryd.f4.body).bind (findReg 10)).getD #[]
noncomputable def so11Ops : Array Oper := ((Tryd.f4.body).bind (findReg 11)).getD #[]
noncomputable def so12Ops : Array Oper := ((Tryd.f4.body).bind (findReg 12)).getD #[]
noncomputable def so13Ops : Array Oper := ((Tryd.f4.body).bind (findReg 13)).getD #[]
noncomputable def so14Ops : Array Oper := ((Tryd.f4.body).bind (findReg 14)).getD #[]
noncomputable def so15Ops : Array Oper := ((Tryd.f4.body).bind (findReg 15)).getD #[]
noncomputable def so16Ops : Array Oper := ((Tryd.f4.body).bind (findReg 16)).getD #[]
noncomputable def so17Ops : Array Oper := ((Tryd.f4.body).bind (findReg 17)).getD #[]
noncomputable def so18Ops : Array Oper := ((Tryd.f4.body).bind (findReg 18)).getD #[]
noncomputable def so19Ops : Array Oper := ((Tryd.f4.body).bind (findReg 19)).getD #[]
noncomputable def so20Ops : Array Oper := ((Tryd.f4.body).bind (findReg 20)).getD #[]
theorem so_body : Tryd.f4.body = some (.seq (.region 0 so0Ops false) (.seq (.region 1 so1Ops false) (.seq (.region 2 so2Ops false) (.seq (.region 3 so3Ops false) (.seq (.region 4 so4Ops false) (.seq (.region 5 so5Ops false) (.seq (.region 6 so6Ops false) (.seq (.region 7 so7Ops false) (.seq (.seq (.region 8 so8Ops false) (.cond (.tmp 79) (.seq (.region 9 so9Ops false) .ret) .skip)) (.seq (.seq (.region 10 so10Ops false) (.cond (.tmp 82) (.seq (.region 11 so11Ops false) .ret) .skip)) (.seq (.region 12 so12Ops false) (.seq (.seq (.region 13 so13Ops false) (.block 0 (.loop (.seq (.seq (.region 14 so14Ops false) (.cond (.tmp 87) .skip (.exit 0))) (.seq (.block 1 (.region 16 so16Ops false)) (.region 15 so15Ops false)))))) (.seq (.region 17 so17Ops false) (.seq (.region 18 so18Ops false) (.seq (.region 19 so19Ops false) (.seq (.region 20 so20Ops false) .ret)))))))))))))))) := by kernel_rfl
theorem so16_region {Q : Exit → Act → World → Prop} (L S G K : Fo) (w2 w4 w6 wm : World) (T : Fo) (kk : Nat) (p : Pay) (l r : Fo) (d : Tm.dropF L kk = .node p l r) (hv : Tm.validB p l = true) (hTn : Tm.len T ≤ 1000) (h24 : w2.heap.size ≤ w4.heap.size) (h46 : w4.heap.size ≤ w6.heap.size) (h6m : w6.heap.size ≤ wm.heap.size)
    {a : Act} {w : World} (h : Hold 110 [(16, .val (.int .i64 ((kk : Nat) : Int))), (15, .sat (wasP T wm)), (0, .sat (oldP (.row L) w2)), (3, .sat (rngP S w2 w4)), (5, .sat (rngP G w4 w6)), (7, .sat (rngP K w6 wm)), (998, .sat (oldP .tabs w2)), (999, .tabs)] w2 a w)
    (hQ : ∀ a' w', Hold 110 [(16, .val (.int .i64 ((kk : Nat) : Int))), (15, .sat (wasP (Tm.app T (.node p l .nil)) wm)), (0, .sat (oldP (.row L) w2)), (3, .sat (rngP S w2 w4)), (5, .sat (rngP G w4 w6)), (7, .sat (rngP K w6 wm)), (998, .sat (oldP .tabs w2)), (999, .tabs)] w2 a' w' → Q .normal a' w') : (Code.region 16 so16Ops false).wp Tryd.prog Q a w := by
  refine region_seq (w0 := w) 9 (by kernel_rfl) ?_
  rw [show List.range 9 = [0, 1, 2, 3, 4, 5, 6, 7, 8] from rfl]
  obtain ⟨wB, rfl⟩ : ∃ wB : World, wB = w := ⟨_, rfl⟩
  have hmB0 : wm.heap.size ≤ wB.heap.size := by obtain ⟨A, c, e, ho⟩ := h.get 15 rfl; exact ho.lo
  have hown : (Kd.sat (wasB T wm wB.heap.size)).R (a.tmps.getD 15 undef) wB := by
    obtain ⟨A, c, e, ho⟩ := h.get 15 rfl
    exact ⟨A, c, e, ho, fun b hb => (ho.lt hb).2⟩
  have h : Hold 110 [(15, .sat (wasB T wm wB.heap.size)), (16, .val (.int .i64 ((kk : Nat) : Int))), (0, .sat (oldP (.row L) w2)), (3, .sat (rngP S w2 w4)), (5, .sat (rngP G w4 w6)), (7, .sat (rngP K w6 wm)), (998, .sat (oldP .tabs w2)), (994, .sat (oldP .any wB))] w2 a wB := ⟨h.size, h.defers, h.world, slots_cons 15 hown (slots_cons 16 (h.get 16 rfl) (slots_cons 0 (h.get 0 rfl) (slots_cons 3 (h.get 3 rfl) (slots_cons 5 (h.get 5 rfl) (slots_cons 7 (h.get 7 rfl) (slots_cons 998 (h.get 998 rfl) (slots_cons 994 (show (Kd.sat (oldP .any wB)).R _ wB from ⟨trivial, Below.refl _ _⟩) slots_nil)))))))⟩
  refine env_one (i := 0) (d := 90) (k := .sat (wasB T wm wB.heap.size)) (step_move (by kernel_rfl) (Opd.of_base 15 rfl) rfl) (by kernel_rfl) (by decide) h ?_
  clear h
  intro a w h
  refine env_one (i := 1) (d := 91) (k := .row L) (step_move (by kernel_rfl) (Opd.old (Opd.of_base 0 rfl)) rfl) (by kernel_rfl) (by decide) h ?_
  clear h
  intro a w h
  refine env_one (i := 2) (d := 92) (k := .val (.int .i64 ((kk : Nat) : Int))) (step_move (by kernel_rfl) (Opd.of_base 16 rfl) rfl) (by kernel_rfl) (by decide) h ?_
  clear h
  intro a w h
  refine env_one (i := 3) (d := 93) (k := .ptrT p l) (step_row_at (k := kk) (r := r) (by kernel_rfl) (Opd.of_base 91 rfl) (Opd.of_base 92 rfl) d rfl) (by kernel_rfl) (by decide) h ?_
  clear h
  intro a w h
  refine env_one (i := 4) (d := 94) (k := .term p l) (step_load_term (by kernel_rfl) (Opd.of_base 93 rfl) rfl) (by kernel_rfl) (by decide) h ?_
  clear h
  intro a w h
  refine env_one (i := 5) (d := 95) (k := .sat (newT p l wB.heap.size)) (step_rcloneB (tt := 994) hv (by kernel_rfl) (Opd.of_base 94 rfl) (Opd.of_base 994 rfl) rfl) (by kernel_rfl) (by decide) h ?_
  clear h
  intro a w h
  have hBw : wB.heap.size ≤ w.heap.size := (show (Kd.sat (oldP .any wB)).R _ w from h.get 994 rfl).2.size
  obtain ⟨A5, c5, e5, h5⟩ := h.get 95 rfl
  refine ops_at (d := some 96) (X := .buildSlice 22 1 #[(0, .tmp 95)]) (by kernel_rfl) fun ty pos after => ?_
  have hrun : (execOp a.eval ⟨some 96, .buildSlice 22 1 #[(0, .tmp 95)], ty, pos, after, none⟩).run Tryd.prog w = .ok (.value (.slice (some ⟨w.heap.size, 0, none⟩) 1 1)) (w.alloc (.cells #[.int .i64 p.1, .int .i64 p.2.1, .string p.2.2, .slice A5 (Tm.len l) c5] 24)) := by
    have e5' : a.eval (.tmp 95) = tv p A5 (Tm.len l) c5 := e5
    unfold execOp
    simp only [List.map_toArray, List.map_cons, List.map_nil, e5']
    go_simp
  refine wp_run hrun ?_
  have hnew : (Kd.sat (newRow (.node p l .nil) wB.heap.size)).R (.slice (some ⟨w.heap.size, 0, none⟩) 1 1) (w.alloc (.cells #[.int .i64 p.1, .int .i64 p.2.1, .string p.2.2, .slice A5 (Tm.len l) c5] 24)) := by
    refine ⟨some ⟨w.heap.size, 0, none⟩, 1, rfl, ?_⟩
    exact args_one h5 (fun b hb => ⟨hb.2, hb.1, by rw [World.size_alloc]; omega⟩) ⟨hBw, by rw [World.size_alloc]; omega⟩
  have h := h.put (d := 96) (by decide) hnew ((Below.refl _ w).alloc (Nat.le_refl _) _)
  have h := h.keep [96, 90, 16, 0, 3, 5, 7, 998]
  generalize a.put (some 96) (.slice (some ⟨w.heap.size, 0, none⟩) 1 1) = a at h ⊢
  generalize w.alloc (.cells #[.int .i64 p.1, .int .i64 p.2.1, .string p.2.2, .slice A5 (Tm.len l) c5] 24) = w at h ⊢
  obtain ⟨A0, c0, e0, ho, hlt⟩ := h.get 90 rfl
  obtain ⟨A6, c6, e6, h6⟩ := h.get 96 rfl
  have hlo := ho.lo
  have hmB : wm.heap.size ≤ wB.heap.size := hmB0
  refine ops_at (d := some 97) (X := .call { callee := .builtin .append, args := #[.tmp 90, .tmp 96], argTypes := #[22, 22] }) (by kernel_rfl) fun ty pos after => ?_
  refine wp_append_S (.tmp 90) (.tmp 96) rfl ho e0 e6 (h6.mono fun b hb => ⟨⟨Nat.le_trans hmB hb.1, hb.2⟩, fun e => by have := hlt b e; omega⟩) (by show 0 < 1; omega) (by show Tm.len T + 1 ≤ 100000; omega) fun A' c' w' ho' hb' => ?_
  refine ops_at (d := some 15) (X := .assign (.tmp 97)) (by kernel_rfl) fun ty pos after => wp_assign_op ?_
  have hz : Only (fun b => wm.heap.size ≤ b) w w' := ⟨hb'.os, hb'.tape, hb'.output, hb'.size, fun k _ hk => hb'.block k (by omega)⟩
  have hg : ∀ t, t ≠ 97 → t ≠ 15 → ((a.put (some 97) (.slice A' (Tm.len T + Tm.len (Fo.node p l .nil)) c')).put (some 15) ((a.put (some 97) (.slice A' (Tm.len T + Tm.len (Fo.node p l .nil)) c')).eval (.tmp 97))).tmps.getD t undef = a.tmps.getD t undef := fun t h1 h2 => (put_other h2).trans (put_other h1)
  have h15 : ((a.put (some 97) (.slice A' (Tm.len T + Tm.len (Fo.node p l .nil)) c')).put (some 15) ((a.put (some 97) (.slice A' (Tm.len T + Tm.len (Fo.node p l .nil)) c')).eval (.tmp 97))).tmps.getD 15 undef = .slice A' (Tm.len T + Tm.len (Fo.node p l .nil)) c' := (put_self (by rw [put_size, h.size]; decide)).trans (put_self (by rw [h.size]; decide))
  have hl : Tm.len (Tm.app T (.node p l .nil)) = Tm.len T + Tm.len (Fo.node p l .nil) := Tm.len_app _ _
  have b0 : (Kd.sat (oldP (.row L) w2)).Bears (fun b => wm.heap.size ≤ b) := Bears.old fun b hb => by omega
  have b3 : (Kd.sat (rngP S w2 w4)).Bears (fun b => wm.heap.size ≤ b) := Bears.rng fun b hb => .inr (by omega)
  have b5 : (Kd.sat (rngP G w4 w6)).Bears (fun b => wm.heap.size ≤ b) := Bears.rng fun b hb => .inr (by omega)
  have b7 : (Kd.sat (rngP K w6 wm)).Bears (fun b => wm.heap.size ≤ b) := Bears.rng fun b hb => .inr hb
  have b8 : (Kd.sat (oldP .tabs w2)).Bears (fun b => wm.heap.size ≤ b) := Bears.old fun b hb => by omega
  have h998 := b8 _ _ _ (h.get 998 rfl) hz
  refine hQ _ w' ⟨put_size.trans (put_size.trans h.size), h.defers, h.world.trans (hz.below h.world.size fun b hb => by omega), ?_⟩
  exact slots_cons 16 (by rw [hg 16 (by decide) (by decide)]; exact h.get 16 rfl) (slots_cons 15 (by rw [h15]; exact ⟨A', c', by rw [hl], by rw [hl]; exact ho'⟩) (slots_cons 0 (by rw [hg 0 (by decide) (by decide)]; exact b0 _ _ _ (h.get 0 rfl) hz) (slots_cons 3 (by rw [hg 3 (by decide) (by decide)]; exact b3 _ _ _ (h.get 3 rfl) hz) (slots_cons 5 (by rw [hg 5 (by decide) (by decide)]; exact b5 _ _ _ (h.get 5 rfl) hz) (slots_cons 7 (by rw [hg 7 (by decide) (by decide)]; exact b7 _ _ _ (h.get 7 rfl) hz) (slots_cons 998 (by rw [hg 998 (by decide) (by decide)]; exact h998) (slots_cons 999 (k0 := .tabs) (oldP.to (k := .tabs) (v := undef) h998) slots_nil)))))))
theorem so0a_region {Q : Exit → Act → World → Prop} (F : Fo)  {w0 : World} {a : Act} {w : World} (h : Hold 110 [(0, .row F), (999, .tabs)] w0 a w)
    (hQ : ∀ a' w', Hold 110 [(0, .row F), (2, .val (.bool false)), (999, .tabs)] w0 a' w' → Q .normal a' w') : (Code.region 0 so0Ops false).wp Tryd.prog Q a w := by
  refine region_seq (w0 := w) 1 (by kernel_rfl) ?_
  rw [show List.range 1 = [0] from rfl]
  refine env_one (i := 0) (d := 2) (k := .val (.bool false)) (step_assign (by kernel_rfl) (Opd.const _) rfl) (by kernel_rfl) (by decide) h ?_
  clear h
  intro a w h
  exact hQ a w (h.keep [0, 2, 999])
theorem so1a_region {Q : Exit → Act → World → Prop} (F : Fo)  {w0 : World} {a : Act} {w : World} (h : Hold 110 [(0, .row F), (2, .val (.bool false)), (999, .tabs)] w0 a w)
    (hQ : ∀ a' w', Hold 110 [(0, .row (Tm.takeF F 40)), (2, .val (.bool false)), (999, .tabs)] w0 a' w' → Q .normal a' w') : (Code.region 1 so1Ops false).wp Tryd.prog Q a w := by
  refine region_seq (w0 := w) 3 (by kernel_rfl) ?_
  rw [show List.range 3 = [0, 1, 2] from rfl]
  refine env_one (i := 0) (d := 17) (k := .row F) (step_move (by kernel_rfl) (Opd.of_base 0 rfl) rfl) (by kernel_rfl) (by decide) h ?_
  clear h
  intro a w h
  refine env_one (i := 1) (d := 18) (k := .row (Tm.takeF F 40)) (step_few (by kernel_rfl) (Opd.of_base 17 rfl) rfl) (by kernel_rfl) (by decide) h ?_
  clear h
  intro a w h
  refine env_one (i := 2) (d := 0) (k := .row (Tm.takeF F 40)) (step_assign (by kernel_rfl) (Opd.of_base 18 rfl) rfl) (by kernel_rfl) (by decide) h ?_
  clear h
  intro a w h
  exact hQ a w (h.keep [0, 2, 999])
theorem so2a_region {Q : Exit → Act → World → Prop} (L : Fo) (w2 : World) (hLn : Tm.len L ≤ 50000) {w0 : World} {a : Act} {w : World} (h : Hold 110 [(0, .sat (oldP (.row L) w2)), (998, .sat (oldP .tabs w2)), (999, .tabs)] w0 a w)
    (hQ : ∀ a' w', Hold 110 [(0, .sat (oldP (.row L) w2)), (3, .sat (rngE (sortR L).1 w2)), (4, .val (.int .i64 (sortR L).2)), (998, .sat (oldP .tabs w2)), (999, .tabs)] w0 a' w' → Q .normal a' w') : (Code.region 2 so2Ops false).wp Tryd.prog Q a w := by
  refine region_seq (w0 := w) 7 (by kernel_rfl) ?_
  rw [show List.range 7 = [0, 1, 2, 3, 4, 5, 6] from rfl]
  refine env_one (i := 0) (d := 20) (k := .sat (oldP (.row L) w2)) (step_move (by kernel_rfl) (Opd.of_base 0 rfl) rfl) (by kernel_rfl) (by decide) h ?_
  clear h
  intro a w h
  refine env_one (i := 1) (d := 21) (k := .sat (srtP (sortR L).1 (sortR L).2 w2)) (step_osortS hLn 998 (by kernel_rfl) (Opd.old (Opd.of_base 20 rfl)) (Opd.of_base 998 rfl) rfl) (by kernel_rfl) (by decide) h ?_
  clear h
  intro a w h
  refine env_one (i := 2) (d := 19) (k := .sat (srtP (sortR L).1 (sortR L).2 w2)) (step_move (by kernel_rfl) (Opd.of_base 21 rfl) rfl) (by kernel_rfl) (by decide) h ?_
  clear h
  intro a w h
  refine env_one (i := 3) (d := 22) (k := .sat (rngE (sortR L).1 w2)) (step_srt0 (by kernel_rfl) (Opd.of_base 19 rfl) rfl) (by kernel_rfl) (by decide) h ?_
  clear h
  intro a w h
  refine env_one (i := 4) (d := 23) (k := .val (.int .i64 (sortR L).2)) (step_srt1 (by kernel_rfl) (Opd.of_base 19 rfl) rfl) (by kernel_rfl) (by decide) h ?_
  clear h
  intro a w h
  refine env_one (i := 5) (d := 3) (k := .sat (rngE (sortR L).1 w2)) (step_assign (by kernel_rfl) (Opd.of_base 22 rfl) rfl) (by kernel_rfl) (by decide) h ?_
  clear h
  intro a w h
  refine env_one (i := 6) (d := 4) (k := .val (.int .i64 (sortR L).2)) (step_assign (by kernel_rfl) (Opd.of_base 23 rfl) rfl) (by kernel_rfl) (by decide) h ?_
  clear h
  intro a w h
  exact hQ a w (h.keep [0, 3, 4, 998, 999])
theorem so3a_region {Q : Exit → Act → World → Prop} (L S : Fo) (x : Int) (w2 : World) (w4 : World) (hLn : Tm.len L ≤ 50000) {w0 : World} {a : Act} {w : World} (h : Hold 110 [(0, .sat (oldP (.row L) w2)), (3, .sat (rngP S w2 w4)), (4, .val (.int .i64 x)), (998, .sat (oldP .tabs w2)), (997, .sat (oldP .tabs w4)), (999, .tabs)] w0 a w)
    (hQ : ∀ a' w', Hold 110 [(0, .sat (oldP (.row L) w2)), (3, .sat (rngP S w2 w4)), (4, .val (.int .i64 x)), (5, .sat (rngE (stableR L).1 w4)), (6, .val (.int .i64 (stableR L).2)), (998, .sat (oldP .tabs w2)), (997, .sat (oldP .tabs w4)), (999, .tabs)] w0 a' w' → Q .normal a' w') : (Code.region 3 so3Ops false).wp Tryd.prog Q a w := by
  refine region_seq (w0 := w) 7 (by kernel_rfl) ?_
  rw [show List.range 7 = [0, 1, 2, 3, 4, 5, 6] from rfl]
  refine env_one (i := 0) (d := 25) (k := .sat (oldP (.row L) w2)) (step_move (by kernel_rfl) (Opd.of_base 0 rfl) rfl) (by kernel_rfl) (by decide) h ?_
  clear h
  intro a w h
  refine env_one (i := 1) (d := 26) (k := .sat (srtP (stableR L).1 (stableR L).2 w4)) (step_ostableS hLn 997 (by kernel_rfl) (Opd.old (Opd.of_base 25 rfl)) (Opd.of_base 997 rfl) rfl) (by kernel_rfl) (by decide) h ?_
  clear h
  intro a w h
  refine env_one (i := 2) (d := 24) (k := .sat (srtP (stableR L).1 (stableR L).2 w4)) (step_move (by kernel_rfl) (Opd.of_base 26 rfl) rfl) (by kernel_rfl) (by decide) h ?_
  clear h
  intro a w h
  refine env_one (i := 3) (d := 27) (k := .sat (rngE (stableR L).1 w4)) (step_srt0 (by kernel_rfl) (Opd.of_base 24 rfl) rfl) (by kernel_rfl) (by decide) h ?_
  clear h
  intro a w h
  refine env_one (i := 4) (d := 28) (k := .val (.int .i64 (stableR L).2)) (step_srt1 (by kernel_rfl) (Opd.of_base 24 rfl) rfl) (by kernel_rfl) (by decide) h ?_
  clear h
  intro a w h
  refine env_one (i := 5) (d := 5) (k := .sat (rngE (stableR L).1 w4)) (step_assign (by kernel_rfl) (Opd.of_base 27 rfl) rfl) (by kernel_rfl) (by decide) h ?_
  clear h
  intro a w h
  refine env_one (i := 6) (d := 6) (k := .val (.int .i64 (stableR L).2)) (step_assign (by kernel_rfl) (Opd.of_base 28 rfl) rfl) (by kernel_rfl) (by decide) h ?_
  clear h
  intro a w h
  exact hQ a w (h.keep [0, 3, 4, 5, 6, 998, 997, 999])
theorem so4a_region {Q : Exit → Act → World → Prop} (L S : Fo) (x : Int) (w2 : World) (w4 : World) (G : Fo) (y : Int) (w6 : World) (hLn : Tm.len L ≤ 50000) {w0 : World} {a : Act} {w : World} (h : Hold 110 [(0, .sat (oldP (.row L) w2)), (3, .sat (rngP S w2 w4)), (4, .val (.int .i64 x)), (5, .sat (rngP G w4 w6)), (6, .val (.int .i64 y)), (998, .sat (oldP .tabs w2)), (997, .sat (oldP .tabs w4)), (996, .sat (oldP .tabs w6)), (999, .tabs)] w0 a w)
    (hQ : ∀ a' w', Hold 110 [(0, .sat (oldP (.row L) w2)), (3, .sat (rngP S w2 w4)), (4, .val (.int .i64 x)), (5, .sat (rngP G w4 w6)), (6, .val (.int .i64 y)), (7, .sat (rngE (keysR L).1 w6)), (8, .val (.int .i64 (keysR L).2)), (998, .sat (oldP .tabs w2)), (997, .sat (oldP .tabs w4)), (996, .sat (oldP .tabs w6)), (999, .tabs)] w0 a' w' → Q .normal a' w') : (Code.region 4 so4Ops false).wp Tryd.prog Q a w := by
  refine region_seq (w0 := w) 7 (by kernel_rfl) ?_
  rw [show List.range 7 = [0, 1, 2, 3, 4, 5, 6] from rfl]
  refine env_one (i := 0) (d := 30) (k := .sat (oldP (.row L) w2)) (step_move (by kernel_rfl) (Opd.of_base 0 rfl) rfl) (by kernel_rfl) (by decide) h ?_
  clear h
  intro a w h
  refine env_one (i := 1) (d := 31) (k := .sat (srtP (keysR L).1 (keysR L).2 w6)) (step_okeysS hLn 996 (by kernel_rfl) (Opd.old (Opd.of_base 30 rfl)) (Opd.of_base 996 rfl) rfl) (by kernel_rfl) (by decide) h ?_
  clear h
  intro a w h
  refine env_one (i := 2) (d := 29) (k := .sat (srtP (keysR L).1 (keysR L).2 w6)) (step_move (by kernel_rfl) (Opd.of_base 31 rfl) rfl) (by kernel_rfl) (by decide) h ?_
  clear h
  intro a w h
  refine env_one (i := 3) (d := 32) (k := .sat (rngE (keysR L).1 w6)) (step_srt0 (by kernel_rfl) (Opd.of_base 29 rfl) rfl) (by kernel_rfl) (by decide) h ?_
  clear h
  intro a w h
  refine env_one (i := 4) (d := 33) (k := .val (.int .i64 (keysR L).2)) (step_srt1 (by kernel_rfl) (Opd.of_base 29 rfl) rfl) (by kernel_rfl) (by decide) h ?_
  clear h
  intro a w h
  refine env_one (i := 5) (d := 7) (k := .sat (rngE (keysR L).1 w6)) (step_assign (by kernel_rfl) (Opd.of_base 32 rfl) rfl) (by kernel_rfl) (by decide) h ?_
  clear h
  intro a w h
  refine env_one (i := 6) (d := 8) (k := .val (.int .i64 (keysR L).2)) (step_assign (by kernel_rfl) (Opd.of_base 33 rfl) rfl) (by kernel_rfl) (by decide) h ?_
  clear h
  intro a w h
  exact hQ a w (h.keep [0, 3, 4, 5, 6, 7, 8, 998, 997, 996, 999])
theorem so5a_region {Q : Exit → Act → World → Prop} (L S : Fo) (x : Int) (w2 : World) (w4 : World) (G : Fo) (y : Int) (w6 : World) (K : Fo) (z : Int) (hLn : Tm.len L ≤ 50000) {w0 : World} {a : Act} {w : World} (h : Hold 110 [(0, .sat (oldP (.row L) w2)), (3, .sat (rngP S w2 w4)), (4, .val (.int .i64 x)), (5, .sat (rngP G w4 w6)), (6, .val (.int .i64 y)), (7, .sat (rngE K w6)), (8, .val (.int .i64 z)), (998, .sat (oldP .tabs w2)), (997, .sat (oldP .tabs w4)), (996, .sat (oldP .tabs w6)), (999, .tabs)] w0 a w)
    (hQ : ∀ a' w', Hold 110 [(0, .sat (oldP (.row L) w2)), (3, .sat (rngP S w2 w4)), (4, .val (.int .i64 x)), (5, .sat (rngP G w4 w6)), (6, .val (.int .i64 y)), (7, .sat (rngE K w6)), (8, .val (.int .i64 z)), (9, .row (sortR L).1), (10, .val (.int .i64 (sortR L).2)), (998, .sat (oldP .tabs w2)), (997, .sat (oldP .tabs w4)), (996, .sat (oldP .tabs w6)), (999, .tabs)] w0 a' w' → Q .normal a' w') : (Code.region 5 so5Ops false).wp Tryd.prog Q a w := by
  refine region_seq (w0 := w) 7 (by kernel_rfl) ?_
  rw [show List.range 7 = [0, 1, 2, 3, 4, 5, 6] from rfl]
  refine env_one (i := 0) (d := 35) (k := .sat (oldP (.row L) w2)) (step_move (by kernel_rfl) (Opd.of_base 0 rfl) rfl) (by kernel_rfl) (by decide) h ?_
  clear h
  intro a w h
  refine env_one (i := 1) (d := 36) (k := .rowErr (sortR L).1 (sortR L).2) (step_rsort hLn (by kernel_rfl) (Opd.old (Opd.of_base 35 rfl)) rfl) (by kernel_rfl) (by decide) h ?_
  clear h
  intro a w h
  refine env_one (i := 2) (d := 34) (k := .rowErr (sortR L).1 (sortR L).2) (step_move (by kernel_rfl) (Opd.of_base 36 rfl) rfl) (by kernel_rfl) (by decide) h ?_
  clear h
  intro a w h
  refine env_one (i := 3) (d := 37) (k := .row (sortR L).1) (step_rowErr0 (by kernel_rfl) (Opd.of_base 34 rfl) rfl) (by kernel_rfl) (by decide) h ?_
  clear h
  intro a w h
  refine env_one (i := 4) (d := 38) (k := .val (.int .i64 (sortR L).2)) (step_rowErr1 (by kernel_rfl) (Opd.of_base 34 rfl) rfl) (by kernel_rfl) (by decide) h ?_
  clear h
  intro a w h
  refine env_one (i := 5) (d := 9) (k := .row (sortR L).1) (step_assign (by kernel_rfl) (Opd.of_base 37 rfl) rfl) (by kernel_rfl) (by decide) h ?_
  clear h
  intro a w h
  refine env_one (i := 6) (d := 10) (k := .val (.int .i64 (sortR L).2)) (step_assign (by kernel_rfl) (Opd.of_base 38 rfl) rfl) (by kernel_rfl) (by decide) h ?_
  clear h
  intro a w h
  exact hQ a w (h.keep [0, 3, 4, 5, 6, 7, 8, 9, 10, 998, 997, 996, 999])
theorem so6a_region {Q : Exit → Act → World → Prop} (L S : Fo) (x : Int) (w2 : World) (w4 : World) (G : Fo) (y : Int) (w6 : World) (K : Fo) (z : Int) (hLn : Tm.len L ≤ 50000) {w0 : World} {a : Act} {w : World} (h : Hold 110 [(0, .sat (oldP (.row L) w2)), (3, .sat (rngP S w2 w4)), (4, .val (.int .i64 x)), (5, .sat (rngP G w4 w6)), (6, .val (.int .i64 y)), (7, .sat (rngE K w6)), (8, .val (.int .i64 z)), (9, .row S), (10, .val (.int .i64 x)), (998, .sat (oldP .tabs w2)), (997, .sat (oldP .tabs w4)), (996, .sat (oldP .tabs w6)), (999, .tabs)] w0 a w)
    (hQ : ∀ a' w', Hold 110 [(0, .sat (oldP (.row L) w2)), (3, .sat (rngP S w2 w4)), (4, .val (.int .i64 x)), (5, .sat (rngP G w4 w6)), (6, .val (.int .i64 y)), (7, .sat (rngE K w6)), (8, .val (.int .i64 z)), (9, .row S), (10, .val (.int .i64 x)), (11, .row (stableR L).1), (12, .val (.int .i64 (stableR L).2)), (998, .sat (oldP .tabs w2)), (997, .sat (oldP .tabs w4)), (996, .sat (oldP .tabs w6)), (999, .tabs)] w0 a' w' → Q .normal a' w') : (Code.region 6 so6Ops false).wp Tryd.prog Q a w := by
  refine region_seq (w0 := w) 7 (by kernel_rfl) ?_
  rw [show List.range 7 = [0, 1, 2, 3, 4, 5, 6] from rfl]
  refine env_one (i := 0) (d := 40) (k := .sat (oldP (.row L) w2)) (step_move (by kernel_rfl) (Opd.of_base 0 rfl) rfl) (by kernel_rfl) (by decide) h ?_
  clear h
  intro a w h
  refine env_one (i := 1) (d := 41) (k := .rowErr (stableR L).1 (stableR L).2) (step_rstable hLn (by kernel_rfl) (Opd.old (Opd.of_base 40 rfl)) rfl) (by kernel_rfl) (by decide) h ?_
  clear h
  intro a w h
  refine env_one (i := 2) (d := 39) (k := .rowErr (stableR L).1 (stableR L).2) (step_move (by kernel_rfl) (Opd.of_base 41 rfl) rfl) (by kernel_rfl) (by decide) h ?_
  clear h
  intro a w h
  refine env_one (i := 3) (d := 42) (k := .row (stableR L).1) (step_rowErr0 (by kernel_rfl) (Opd.of_base 39 rfl) rfl) (by kernel_rfl) (by decide) h ?_
  clear h
  intro a w h
  refine env_one (i := 4) (d := 43) (k := .val (.int .i64 (stableR L).2)) (step_rowErr1 (by kernel_rfl) (Opd.of_base 39 rfl) rfl) (by kernel_rfl) (by decide) h ?_
  clear h
  intro a w h
  refine env_one (i := 5) (d := 11) (k := .row (stableR L).1) (step_assign (by kernel_rfl) (Opd.of_base 42 rfl) rfl) (by kernel_rfl) (by decide) h ?_
  clear h
  intro a w h
  refine env_one (i := 6) (d := 12) (k := .val (.int .i64 (stableR L).2)) (step_assign (by kernel_rfl) (Opd.of_base 43 rfl) rfl) (by kernel_rfl) (by decide) h ?_
  clear h
  intro a w h
  exact hQ a w (h.keep [0, 3, 4, 5, 6, 7, 8, 9, 10, 11, 12, 998, 997, 996, 999])
theorem so7a_region {Q : Exit → Act → World → Prop} (L S : Fo) (x : Int) (w2 : World) (w4 : World) (G : Fo) (y : Int) (w6 : World) (K : Fo) (z : Int) (hLn : Tm.len L ≤ 50000) {w0 : World} {a : Act} {w : World} (h : Hold 110 [(0, .sat (oldP (.row L) w2)), (3, .sat (rngP S w2 w4)), (4, .val (.int .i64 x)), (5, .sat (rngP G w4 w6)), (6, .val (.int .i64 y)), (7, .sat (rngE K w6)), (8, .val (.int .i64 z)), (9, .row S), (10, .val (.int .i64 x)), (11, .row G), (12, .val (.int .i64 y)), (998, .sat (oldP .tabs w2)), (997, .sat (oldP .tabs w4)), (996, .sat (oldP .tabs w6)), (999, .tabs)] w0 a w)
    (hQ : ∀ a' w', Hold 110 [(0, .sat (oldP (.row L) w2)), (3, .sat (rngP S w2 w4)), (4, .val (.int .i64 x)), (5, .sat (rngP G w4 w6)), (6, .val (.int .i64 y)), (7, .sat (rngE K w6)), (8, .val (.int .i64 z)), (9, .row S), (10, .val (.int .i64 x)), (11, .row G), (12, .val (.int .i64 y)), (13, .row (keysR L).1), (14, .val (.int .i64 (keysR L).2)), (998, .sat (oldP .tabs w2)), (997, .sat (oldP .tabs w4)), (996, .sat (oldP .tabs w6)), (999, .tabs)] w0 a' w' → Q .normal a' w') : (Code.region 7 so7Ops false).wp Tryd.prog Q a w := by
  refine region_seq (w0 := w) 7 (by kernel_rfl) ?_
  rw [show List.range 7 = [0, 1, 2, 3, 4, 5, 6] from rfl]
  refine env_one (i := 0) (d := 45) (k := .sat (oldP (.row L) w2)) (step_move (by kernel_rfl) (Opd.of_base 0 rfl) rfl) (by kernel_rfl) (by decide) h ?_
  clear h
  intro a w h
  refine env_one (i := 1) (d := 46) (k := .rowErr (keysR L).1 (keysR L).2) (step_rkeys hLn (by kernel_rfl) (Opd.old (Opd.of_base 45 rfl)) rfl) (by kernel_rfl) (by decide) h ?_
  clear h
  intro a w h
  refine env_one (i := 2) (d := 44) (k := .rowErr (keysR L).1 (keysR L).2) (step_move (by kernel_rfl) (Opd.of_base 46 rfl) rfl) (by kernel_rfl) (by decide) h ?_
  clear h
  intro a w h
  refine env_one (i := 3) (d := 47) (k := .row (keysR L).1) (step_rowErr0 (by kernel_rfl) (Opd.of_base 44 rfl) rfl) (by kernel_rfl) (by decide) h ?_
  clear h
  intro a w h
  refine env_one (i := 4) (d := 48) (k := .val (.int .i64 (keysR L).2)) (step_rowErr1 (by kernel_rfl) (Opd.of_base 44 rfl) rfl) (by kernel_rfl) (by decide) h ?_
  clear h
  intro a w h
  refine env_one (i := 5) (d := 13) (k := .row (keysR L).1) (step_assign (by kernel_rfl) (Opd.of_base 47 rfl) rfl) (by kernel_rfl) (by decide) h ?_
  clear h
  intro a w h
  refine env_one (i := 6) (d := 14) (k := .val (.int .i64 (keysR L).2)) (step_assign (by kernel_rfl) (Opd.of_base 48 rfl) rfl) (by kernel_rfl) (by decide) h ?_
  clear h
  intro a w h
  exact hQ a w (h.keep [0, 3, 4, 5, 6, 7, 8, 9, 10, 11, 12, 13, 14, 998, 997, 996, 999])
theorem so8a_region {Q : Exit → Act → World → Prop} (L S : Fo) (x : Int) (w2 : World) (w4 : World) (G : Fo) (y : Int) (w6 : World) (K : Fo) (z : Int) (hSn : Tm.len S ≤ 50000) (hGn : Tm.len G ≤ 50000) (hKn : Tm.len K ≤ 50000) (hSS : Tm.sameRows S S = true) (hGG : Tm.sameRows G G = true) (hKK : Tm.sameRows K K = true) {w0 : World} {a : Act} {w : World} (h : Hold 110 [(0, .sat (oldP (.row L) w2)), (3, .sat (rngP S w2 w4)), (4, .val (.int .i64 x)), (5, .sat (rngP G w4 w6)), (6, .val (.int .i64 y)), (7, .sat (rngE K w6)), (8, .val (.int .i64 z)), (9, .row S), (10, .val (.int .i64 x)), (11, .row G), (12, .val (.int .i64 y)), (13, .row K), (14, .val (.int .i64 z)), (998, .sat (oldP .tabs w2)), (997, .sat (oldP .tabs w4)), (996, .sat (oldP .tabs w6)), (999, .tabs)] w0 a w)
    (hQ : ∀ a' w', Hold 110 [(0, .sat (oldP (.row L) w2)), (3, .sat (rngP S w2 w4)), (5, .sat (rngP G w4 w6)), (7, .sat (rngE K w6)), (79, .val (.bool false)), (998, .sat (oldP .tabs w2)), (997, .sat (oldP .tabs w4)), (996, .sat (oldP .tabs w6)), (999, .tabs)] w0 a' w' → Q .normal a' w') : (Code.region 8 so8Ops false).wp Tryd.prog Q a w := by
  refine region_seq (w0 := w) 31 (by kernel_rfl) ?_
  rw [show List.range 31 = [0, 1, 2, 3, 4, 5, 6, 7, 8, 9, 10, 11, 12, 13, 14, 15, 16, 17, 18, 19, 20, 21, 22, 23, 24, 25, 26, 27, 28, 29, 30] from rfl]
  refine env_one (i := 0) (d := 49) (k := .val (.int .i64 x)) (step_move (by kernel_rfl) (Opd.of_base 4 rfl) rfl) (by kernel_rfl) (by decide) h ?_
  clear h
  intro a w h
  refine env_one (i := 1) (d := 50) (k := .val (.int .i64 x)) (step_move (by kernel_rfl) (Opd.of_base 10 rfl) rfl) (by kernel_rfl) (by decide) h ?_
  clear h
  intro a w h
  refine env_one (i := 2) (d := 51) (k := .val (.bool false)) (step_ne_err (m := x) (n := x) (by kernel_rfl) (Opd.of_base 49 rfl) (Opd.of_base 50 rfl) (by simp) rfl) (by kernel_rfl) (by decide) h ?_
  clear h
  intro a w h
  refine env_one (i := 3) (d := 52) (k := .val (.bool false)) (step_move (by kernel_rfl) (Opd.of_base 51 rfl) rfl) (by kernel_rfl) (by decide) h ?_
  clear h
  intro a w h
  refine env_guard (i := 4) (d := 53) (g := 3) (dg := 52) (b := false) (k := .val (.int .i64 y)) (step_move (by kernel_rfl) (Opd.of_base 6 rfl) rfl) (by kernel_rfl) (by decide) (by kernel_rfl) (by decide) rfl h ?_
  clear h
  intro a w h
  refine env_guard (i := 5) (d := 54) (g := 3) (dg := 52) (b := false) (k := .val (.int .i64 y)) (step_move (by kernel_rfl) (Opd.of_base 12 rfl) rfl) (by kernel_rfl) (by decide) (by kernel_rfl) (by decide) rfl h ?_
  clear h
  intro a w h
  refine env_guard (i := 6) (d := 55) (g := 3) (dg := 52) (b := false) (k := .val (.bool false)) (step_ne_err (m := y) (n := y) (by kernel_rfl) (Opd.of_base 53 rfl) (Opd.of_base 54 rfl) (by simp) rfl) (by kernel_rfl) (by decide) (by kernel_rfl) (by decide) rfl h ?_
  clear h
  intro a w h
  refine env_one (i := 7) (d := 56) (k := .val (.bool false)) (step_pick_no (x := .const (.bool true)) (by kernel_rfl) (Opd.of_base 52 rfl) (Opd.of_base 55 rfl) rfl) (by kernel_rfl) (by decide) h ?_
  clear h
  intro a w h
  refine env_one (i := 8) (d := 57) (k := .val (.bool false)) (step_move (by kernel_rfl) (Opd.of_base 56 rfl) rfl) (by kernel_rfl) (by decide) h ?_
  clear h
  intro a w h
  refine env_guard (i := 9) (d := 58) (g := 8) (dg := 57) (b := false) (k := .val (.int .i64 z)) (step_move (by kernel_rfl) (Opd.of_base 8 rfl) rfl) (by kernel_rfl) (by decide) (by kernel_rfl) (by decide) rfl h ?_
  clear h
  intro a w h
  refine env_guard (i := 10) (d := 59) (g := 8) (dg := 57) (b := false) (k := .val (.int .i64 z)) (step_move (by kernel_rfl) (Opd.of_base 14 rfl) rfl) (by kernel_rfl) (by decide) (by kernel_rfl) (by decide) rfl h ?_
  clear h
  intro a w h
  refine env_guard (i := 11) (d := 60) (g := 8) (dg := 57) (b := false) (k := .val (.bool false)) (step_ne_err (m := z) (n := z) (by kernel_rfl) (Opd.of_base 58 rfl) (Opd.of_base 59 rfl) (by simp) rfl) (by kernel_rfl) (by decide) (by kernel_rfl) (by decide) rfl h ?_
  clear h
  intro a w h
  refine env_one (i := 12) (d := 61) (k := .val (.bool false)) (step_pick_no (x := .const (.bool true)) (by kernel_rfl) (Opd.of_base 57 rfl) (Opd.of_base 60 rfl) rfl) (by kernel_rfl) (by decide) h ?_
  clear h
  intro a w h
  refine env_one (i := 13) (d := 62) (k := .val (.bool false)) (step_move (by kernel_rfl) (Opd.of_base 61 rfl) rfl) (by kernel_rfl) (by decide) h ?_
  clear h
  intro a w h
  refine env_guard (i := 14) (d := 63) (g := 13) (dg := 62) (b := false) (k := .sat (rngP S w2 w4)) (step_move (by kernel_rfl) (Opd.of_base 3 rfl) rfl) (by kernel_rfl) (by decide) (by kernel_rfl) (by decide) rfl h ?_
  clear h
  intro a w h
  refine env_guard (i := 15) (d := 64) (g := 13) (dg := 62) (b := false) (k := .row S) (step_move (by kernel_rfl) (Opd.of_base 9 rfl) rfl) (by kernel_rfl) (by decide) (by kernel_rfl) (by decide) rfl h ?_
  clear h
  intro a w h
  refine env_guard (i := 16) (d := 65) (g := 13) (dg := 62) (b := false) (k := .val (.bool true)) (step_sameAll hSn (by kernel_rfl) (Opd.rngP (Opd.of_base 63 rfl)) (Opd.of_base 64 rfl) hSS rfl) (by kernel_rfl) (by decide) (by kernel_rfl) (by decide) rfl h ?_
  clear h
  intro a w h
  refine env_guard (i := 17) (d := 66) (g := 13) (dg := 62) (b := false) (k := .val (.bool false)) (step_not (by kernel_rfl) (Opd.of_base 65 rfl) rfl) (by kernel_rfl) (by decide) (by kernel_rfl) (by decide) rfl h ?_
  clear h
  intro a w h
  refine env_one (i := 18) (d := 67) (k := .val (.bool false)) (step_pick_no (x := .const (.bool true)) (by kernel_rfl) (Opd.of_base 62 rfl) (Opd.of_base 66 rfl) rfl) (by kernel_rfl) (by decide) h ?_
  clear h
  intro a w h
  refine env_one (i := 19) (d := 68) (k := .val (.bool false)) (step_move (by kernel_rfl) (Opd.of_base 67 rfl) rfl) (by kernel_rfl) (by decide) h ?_
  clear h
  intro a w h
  refine env_guard (i := 20) (d := 69) (g := 19) (dg := 68) (b := false) (k := .sat (rngP G w4 w6)) (step_move (by kernel_rfl) (Opd.of_base 5 rfl) rfl) (by kernel_rfl) (by decide) (by kernel_rfl) (by decide) rfl h ?_
  clear h
  intro a w h
  refine env_guard (i := 21) (d := 70) (g := 19) (dg := 68) (b := false) (k := .row G) (step_move (by kernel_rfl) (Opd.of_base 11 rfl) rfl) (by kernel_rfl) (by decide) (by kernel_rfl) (by decide) rfl h ?_
  clear h
  intro a w h
  refine env_guard (i := 22) (d := 71) (g := 19) (dg := 68) (b := false) (k := .val (.bool true)) (step_sameAll hGn (by kernel_rfl) (Opd.rngP (Opd.of_base 69 rfl)) (Opd.of_base 70 rfl) hGG rfl) (by kernel_rfl) (by decide) (by kernel_rfl) (by decide) rfl h ?_
  clear h
  intro a w h
  refine env_guard (i := 23) (d := 72) (g := 19) (dg := 68) (b := false) (k := .val (.bool false)) (step_not (by kernel_rfl) (Opd.of_base 71 rfl) rfl) (by kernel_rfl) (by decide) (by kernel_rfl) (by decide) rfl h ?_
  clear h
  intro a w h
  refine env_one (i := 24) (d := 73) (k := .val (.bool false)) (step_pick_no (x := .const (.bool true)) (by kernel_rfl) (Opd.of_base 68 rfl) (Opd.of_base 72 rfl) rfl) (by kernel_rfl) (by decide) h ?_
  clear h
  intro a w h
  refine env_one (i := 25) (d := 74) (k := .val (.bool false)) (step_move (by kernel_rfl) (Opd.of_base 73 rfl) rfl) (by kernel_rfl) (by decide) h ?_
  clear h
  intro a w h
  refine env_guard (i := 26) (d := 75) (g := 25) (dg := 74) (b := false) (k := .sat (rngE K w6)) (step_move (by kernel_rfl) (Opd.of_base 7 rfl) rfl) (by kernel_rfl) (by decide) (by kernel_rfl) (by decide) rfl h ?_
  clear h
  intro a w h
  refine env_guard (i := 27) (d := 76) (g := 25) (dg := 74) (b := false) (k := .row K) (step_move (by kernel_rfl) (Opd.of_base 13 rfl) rfl) (by kernel_rfl) (by decide) (by kernel_rfl) (by decide) rfl h ?_
  clear h
  intro a w h
  refine env_guard (i := 28) (d := 77) (g := 25) (dg := 74) (b := false) (k := .val (.bool true)) (step_sameAll hKn (by kernel_rfl) (Opd.rngE (Opd.of_base 75 rfl)) (Opd.of_base 76 rfl) hKK rfl) (by kernel_rfl) (by decide) (by kernel_rfl) (by decide) rfl h ?_
  clear h
  intro a w h
  refine env_guard (i := 29) (d := 78) (g := 25) (dg := 74) (b := false) (k := .val (.bool false)) (step_not (by kernel_rfl) (Opd.of_base 77 rfl) rfl) (by kernel_rfl) (by decide) (by kernel_rfl) (by decide) rfl h ?_
  clear h
  intro a w h
  refine env_one (i := 30) (d := 79) (k := .val (.bool false)) (step_pick_no (x := .const (.bool true)) (by kernel_rfl) (Opd.of_base 74 rfl) (Opd.of_base 78 rfl) rfl) (by kernel_rfl) (by decide) h ?_
  clear h
  intro a w h
  exact hQ a w (h.keep [0, 3, 5, 7, 79, 998, 997, 996, 999])
theorem so10a_region {Q : Exit → Act → World → Prop} (L S : Fo) (x : Int) (w2 : World) (w4 : World) (G : Fo) (y : Int) (w6 : World) (K : Fo) (z : Int) (hLn : Tm.len L ≤ 50000) (hv : Tm.allV L = false) {w0 : World} {a : Act} {w : World} (h : Hold 110 [(0, .sat (oldP (.row L) w2)), (3, .sat (rngP S w2 w4)), (5, .sat (rngP G w4 w6)), (7, .sat (rngE K w6)), (998, .sat (oldP .tabs w2)), (997, .sat (oldP .tabs w4)), (996, .sat (oldP .tabs w6)), (999, .tabs)] w0 a w)
    (hQ : ∀ a' w', Hold 110 [(0, .sat (oldP (.row L) w2)), (3, .sat (rngP S w2 w4)), (5, .sat (rngP G w4 w6)), (7, .sat (rngE K w6)), (82, .val (.bool true)), (998, .sat (oldP .tabs w2)), (997, .sat (oldP .tabs w4)), (996, .sat (oldP .tabs w6)), (999, .tabs)] w0 a' w' → Q .normal a' w') : (Code.region 10 so10Ops false).wp Tryd.prog Q a w := by
  refine region_seq (w0 := w) 3 (by kernel_rfl) ?_
  rw [show List.range 3 = [0, 1, 2] from rfl]
  refine env_one (i := 0) (d := 80) (k := .sat (oldP (.row L) w2)) (step_move (by kernel_rfl) (Opd.of_base 0 rfl) rfl) (by kernel_rfl) (by decide) h ?_
  clear h
  intro a w h
  refine env_one (i := 1) (d := 81) (k := .val (.bool false)) (step_lvalid hLn (by kernel_rfl) (Opd.old (Opd.of_base 80 rfl)) hv rfl) (by kernel_rfl) (by decide) h ?_
  clear h
  intro a w h
  refine env_one (i := 2) (d := 82) (k := .val (.bool true)) (step_not (by kernel_rfl) (Opd.of_base 81 rfl) rfl) (by kernel_rfl) (by decide) h ?_
  clear h
  intro a w h
  exact hQ a w (h.keep [0, 3, 5, 7, 82, 998, 997, 996, 999])
theorem so11a_region {Q : Exit → Act → World → Prop} (L S : Fo) (x : Int) (w2 : World) (w4 : World) (G : Fo) (y : Int) (w6 : World) (K : Fo) (z : Int)  {w0 : World} {a : Act} {w : World} (h : Hold 110 [(0, .sat (oldP (.row L) w2)), (3, .sat (rngP S w2 w4)), (5, .sat (rngP G w4 w6)), (7, .sat (rngE K w6)), (998, .sat (oldP .tabs w2)), (997, .sat (oldP .tabs w4)), (996, .sat (oldP .tabs w6)), (999, .tabs)] w0 a w)
    (hQ : ∀ a' w', Hold 110 [(0, .sat (oldP (.row L) w2)), (3, .sat (rngP S w2 w4)), (5, .sat (rngP G w4 w6)), (7, .sat (rngE K w6)), (2, .val (.bool true)), (998, .sat (oldP .tabs w2)), (997, .sat (oldP .tabs w4)), (996, .sat (oldP .tabs w6)), (999, .tabs)] w0 a' w' → Q .normal a' w') : (Code.region 11 so11Ops false).wp Tryd.prog Q a w := by
  refine region_seq (w0 := w) 2 (by kernel_rfl) ?_
  rw [show List.range 2 = [0, 1] from rfl]
  refine env_one (i := 0) (d := 83) (k := .val (.bool true)) (step_awake 999 (by kernel_rfl) (Opd.of_base 999 rfl) rfl) (by kernel_rfl) (by decide) h ?_
  clear h
  intro a w h
  refine env_one (i := 1) (d := 2) (k := .val (.bool true)) (step_assign (by kernel_rfl) (Opd.of_base 83 rfl) rfl) (by kernel_rfl) (by decide) h ?_
  clear h
  intro a w h
  exact hQ a w (h.keep [0, 3, 5, 7, 2, 998, 997, 996, 999])
theorem so10b_region {Q : Exit → Act → World → Prop} (L S : Fo) (x : Int) (w2 : World) (w4 : World) (G : Fo) (y : Int) (w6 : World) (K : Fo) (z : Int) (hLn : Tm.len L ≤ 50000) (hv : Tm.allV L = true) {w0 : World} {a : Act} {w : World} (h : Hold 110 [(0, .sat (oldP (.row L) w2)), (3, .sat (rngP S w2 w4)), (5, .sat (rngP G w4 w6)), (7, .sat (rngE K w6)), (998, .sat (oldP .tabs w2)), (997, .sat (oldP .tabs w4)), (996, .sat (oldP .tabs w6)), (999, .tabs)] w0 a w)
    (hQ : ∀ a' w', Hold 110 [(0, .sat (oldP (.row L) w2)), (3, .sat (rngP S w2 w4)), (5, .sat (rngP G w4 w6)), (7, .sat (rngE K w6)), (82, .val (.bool false)), (998, .sat (oldP .tabs w2)), (997, .sat (oldP .tabs w4)), (996, .sat (oldP .tabs w6)), (999, .tabs)] w0 a' w' → Q .normal a' w') : (Code.region 10 so10Ops false).wp Tryd.prog Q a w := by
  refine region_seq (w0 := w) 3 (by kernel_rfl) ?_
  rw [show List.range 3 = [0, 1, 2] from rfl]
  refine env_one (i := 0) (d := 80) (k := .sat (oldP (.row L) w2)) (step_move (by kernel_rfl) (Opd.of_base 0 rfl) rfl) (by kernel_rfl) (by decide) h ?_
  clear h
  intro a w h
  refine env_one (i := 1) (d := 81) (k := .val (.bool true)) (step_lvalid hLn (by kernel_rfl) (Opd.old (Opd.of_base 80 rfl)) hv rfl) (by kernel_rfl) (by decide) h ?_
  clear h
  intro a w h
  refine env_one (i := 2) (d := 82) (k := .val (.bool false)) (step_not (by kernel_rfl) (Opd.of_base 81 rfl) rfl) (by kernel_rfl) (by decide) h ?_
  clear h
  intro a w h
  exact hQ a w (h.keep [0, 3, 5, 7, 82, 998, 997, 996, 999])
theorem so12_region {Q : Exit → Act → World → Prop} (L S G K : Fo) (w2 w4 w6 wm : World) {a : Act} (h : Hold 110 [(0, .sat (oldP (.row L) w2)), (3, .sat (rngP S w2 w4)), (5, .sat (rngP G w4 w6)), (7, .sat (rngE K w6)), (998, .sat (oldP .tabs w2)), (999, .tabs)] w2 a wm)
    (hQ : ∀ a' w', Hold 110 [(0, .sat (oldP (.row L) w2)), (3, .sat (rngP S w2 w4)), (5, .sat (rngP G w4 w6)), (7, .sat (rngP K w6 wm)), (15, .sat (wasP .nil wm)), (998, .sat (oldP .tabs w2)), (999, .tabs)] w2 a' w' → Q .normal a' w') : (Code.region 12 so12Ops false).wp Tryd.prog Q a wm := by
  refine region_seq (w0 := wm) 1 (by kernel_rfl) ?_
  rw [show List.range 1 = [0] from rfl]
  refine ops_at (d := some 15) (X := .assign (.const (.slice none 0 0))) (by kernel_rfl) fun ty pos after => ?_
  refine wp_assign_op ?_
  have h := h.put (d := 15) (k := .val (.slice none 0 0)) (v := .slice none 0 0) (by decide) rfl (Below.refl _ _)
  exact hQ _ wm ⟨h.size, h.defers, h.world, slots_cons 0 (h.get 0 rfl) (slots_cons 3 (h.get 3 rfl) (slots_cons 5 (h.get 5 rfl) (slots_cons 7 (rngE.fix (h.get 7 rfl)) (slots_cons 15 (⟨none, 0, h.get 15 rfl, OwnS.start (Nat.le_refl _)⟩) (slots_cons 998 (h.get 998 rfl) (slots_cons 999 (h.get 999 rfl) (slots_nil)))))))⟩
theorem so13a_region {Q : Exit → Act → World → Prop} (L S : Fo) (x : Int) (w2 : World) (w4 : World) (G : Fo) (y : Int) (w6 : World) (K : Fo) (z : Int) (wm : World)  {w0 : World} {a : Act} {w : World} (h : Hold 110 [(0, .sat (oldP (.row L) w2)), (3, .sat (rngP S w2 w4)), (5, .sat (rngP G w4 w6)), (7, .sat (rngP K w6 wm)), (15, .sat (wasP .nil wm)), (998, .sat (oldP .tabs w2)), (999, .tabs)] w0 a w)
    (hQ : ∀ a' w', Hold 110 [(0, .sat (oldP (.row L) w2)), (3, .sat (rngP S w2 w4)), (5, .sat (rngP G w4 w6)), (7, .sat (rngP K w6 wm)), (15, .sat (wasP .nil wm)), (16, .val (.int .i64 0)), (998, .sat (oldP .tabs w2)), (999, .tabs)] w0 a' w' → Q .normal a' w') : (Code.region 13 so13Ops false).wp Tryd.prog Q a w := by
  refine region_seq (w0 := w) 1 (by kernel_rfl) ?_
  rw [show List.range 1 = [0] from rfl]
  refine env_one (i := 0) (d := 16) (k := .val (.int .i64 0)) (step_assign (by kernel_rfl) (Opd.const _) rfl) (by kernel_rfl) (by decide) h ?_
  clear h
  intro a w h
  exact hQ a w (h.keep [0, 3, 5, 7, 15, 16, 998, 999])
theorem so14a_region {Q : Exit → Act → World → Prop} (L S : Fo) (x : Int) (w2 : World) (w4 : World) (G : Fo) (y : Int) (w6 : World) (K : Fo) (z : Int) (wm : World) (kk : Nat) (T : Fo) (hLn : Tm.len L ≤ 50000) (hi : kk < (Tm.len L)) {w0 : World} {a : Act} {w : World} (h : Hold 110 [(16, .val (.int .i64 ((kk : Nat) : Int))), (15, .sat (wasP T wm)), (0, .sat (oldP (.row L) w2)), (3, .sat (rngP S w2 w4)), (5, .sat (rngP G w4 w6)), (7, .sat (rngP K w6 wm)), (998, .sat (oldP .tabs w2)), (999, .tabs)] w0 a w)
    (hQ : ∀ a' w', Hold 110 [(16, .val (.int .i64 ((kk : Nat) : Int))), (15, .sat (wasP T wm)), (0, .sat (oldP (.row L) w2)), (3, .sat (rngP S w2 w4)), (5, .sat (rngP G w4 w6)), (7, .sat (rngP K w6 wm)), (87, .val (.bool true)), (998, .sat (oldP .tabs w2)), (999, .tabs)] w0 a' w' → Q .normal a' w') : (Code.region 14 so14Ops false).wp Tryd.prog Q a w := by
  refine region_seq (w0 := w) 4 (by kernel_rfl) ?_
  rw [show List.range 4 = [0, 1, 2, 3] from rfl]
  refine env_one (i := 0) (d := 84) (k := .val (.int .i64 ((kk : Nat) : Int))) (step_move (by kernel_rfl) (Opd.of_base 16 rfl) rfl) (by kernel_rfl) (by decide) h ?_
  clear h
  intro a w h
  refine env_one (i := 1) (d := 85) (k := .sat (oldP (.row L) w2)) (step_move (by kernel_rfl) (Opd.of_base 0 rfl) rfl) (by kernel_rfl) (by decide) h ?_
  clear h
  intro a w h
  refine env_one (i := 2) (d := 86) (k := .val (.int .i64 ((Tm.len L : Nat) : Int))) (step_len_row (by kernel_rfl) (Opd.old (Opd.of_base 85 rfl)) rfl) (by kernel_rfl) (by decide) h ?_
  clear h
  intro a w h
  refine env_one (i := 3) (d := 87) (k := .val (.bool true)) (step_lt_int (m := ((kk : Nat) : Int)) (n := ((Tm.len L : Nat) : Int)) (by kernel_rfl) (Opd.of_base 84 rfl) (Opd.of_base 86 rfl) (decide_eq_true (by omega)) rfl) (by kernel_rfl) (by decide) h ?_
  clear h
  intro a w h
  exact hQ a w (h.keep [16, 15, 0, 3, 5, 7, 87, 998, 999])
theorem so15a_region {Q : Exit → Act → World → Prop} (L S : Fo) (x : Int) (w2 : World) (w4 : World) (G : Fo) (y : Int) (w6 : World) (K : Fo) (z : Int) (wm : World) (kk : Nat) (T : Fo) (p1 : Pay) (l1 r1 : Fo) (hLn : Tm.len L ≤ 50000) (hi : kk < (Tm.len L)) {w0 : World} {a : Act} {w : World} (h : Hold 110 [(16, .val (.int .i64 ((kk : Nat) : Int))), (15, .sat (wasP (Tm.app T (.node p1 l1 .nil)) wm)), (0, .sat (oldP (.row L) w2)), (3, .sat (rngP S w2 w4)), (5, .sat (rngP G w4 w6)), (7, .sat (rngP K w6 wm)), (998, .sat (oldP .tabs w2)), (999, .tabs)] w0 a w)
    (hQ : ∀ a' w', Hold 110 [(16, .val (.int .i64 ((kk + 1 : Nat) : Int))), (15, .sat (wasP (Tm.app T (.node p1 l1 .nil)) wm)), (0, .sat (oldP (.row L) w2)), (3, .sat (rngP S w2 w4)), (5, .sat (rngP G w4 w6)), (7, .sat (rngP K w6 wm)), (998, .sat (oldP .tabs w2)), (999, .tabs)] w0 a' w' → Q .normal a' w') : (Code.region 15 so15Ops false).wp Tryd.prog Q a w := by
  refine region_seq (w0 := w) 3 (by kernel_rfl) ?_
  rw [show List.range 3 = [0, 1, 2] from rfl]
  refine env_one (i := 0) (d := 88) (k := .val (.int .i64 ((kk : Nat) : Int))) (step_move (by kernel_rfl) (Opd.of_base 16 rfl) rfl) (by kernel_rfl) (by decide) h ?_
  clear h
  intro a w h
  refine env_one (i := 1) (d := 89) (k := .val (.int .i64 ((kk + 1 : Nat) : Int))) (step_add (m := ((kk : Nat) : Int)) (n := 1) (s := ((kk + 1 : Nat) : Int)) (by kernel_rfl) (Opd.of_base 88 rfl) (Opd.const _) (by rw [IntKind.wrap_i64]; omega) rfl) (by kernel_rfl) (by decide) h ?_
  clear h
  intro a w h
  refine env_one (i := 2) (d := 16) (k := .val (.int .i64 ((kk + 1 : Nat) : Int))) (step_assign (by kernel_rfl) (Opd.of_base 89 rfl) rfl) (by kernel_rfl) (by decide) h ?_
  clear h
  intro a w h
  exact hQ a w (h.keep [16, 15, 0, 3, 5, 7, 998, 999])
theorem so14b_region {Q : Exit → Act → World → Prop} (L S : Fo) (x : Int) (w2 : World) (w4 : World) (G : Fo) (y : Int) (w6 : World) (K : Fo) (z : Int) (wm : World) (T : Fo) (hLn : Tm.len L ≤ 50000) {w0 : World} {a : Act} {w : World} (h : Hold 110 [(16, .val (.int .i64 (((Tm.len L) : Nat) : Int))), (15, .sat (wasP L wm)), (0, .sat (oldP (.row L) w2)), (3, .sat (rngP S w2 w4)), (5, .sat (rngP G w4 w6)), (7, .sat (rngP K w6 wm)), (998, .sat (oldP .tabs w2)), (999, .tabs)] w0 a w)
    (hQ : ∀ a' w', Hold 110 [(16, .val (.int .i64 (((Tm.len L) : Nat) : Int))), (15, .sat (wasP L wm)), (0, .sat (oldP (.row L) w2)), (3, .sat (rngP S w2 w4)), (5, .sat (rngP G w4 w6)), (7, .sat (rngP K w6 wm)), (87, .val (.bool false)), (998, .sat (oldP .tabs w2)), (999, .tabs)] w0 a' w' → Q .normal a' w') : (Code.region 14 so14Ops false).wp Tryd.prog Q a w := by
  refine region_seq (w0 := w) 4 (by kernel_rfl) ?_
  rw [show List.range 4 = [0, 1, 2, 3] from rfl]
  refine env_one (i := 0) (d := 84) (k := .val (.int .i64 (((Tm.len L) : Nat) : Int))) (step_move (by kernel_rfl) (Opd.of_base 16 rfl) rfl) (by kernel_rfl) (by decide) h ?_
  clear h
  intro a w h
  refine env_one (i := 1) (d := 85) (k := .sat (oldP (.row L) w2)) (step_move (by kernel_rfl) (Opd.of_base 0 rfl) rfl) (by kernel_rfl) (by decide) h ?_
  clear h
  intro a w h
  refine env_one (i := 2) (d := 86) (k := .val (.int .i64 ((Tm.len L : Nat) : Int))) (step_len_row (by kernel_rfl) (Opd.old (Opd.of_base 85 rfl)) rfl) (by kernel_rfl) (by decide) h ?_
  clear h
  intro a w h
  refine env_one (i := 3) (d := 87) (k := .val (.bool false)) (step_lt_int (m := (((Tm.len L) : Nat) : Int)) (n := ((Tm.len L : Nat) : Int)) (by kernel_rfl) (Opd.of_base 84 rfl) (Opd.of_base 86 rfl) (decide_eq_false (by omega)) rfl) (by kernel_rfl) (by decide) h ?_
  clear h
  intro a w h
  exact hQ a w (h.keep [16, 15, 0, 3, 5, 7, 87, 998, 999])
theorem so20a_region {Q : Exit → Act → World → Prop} (L S : Fo) (x : Int) (w2 : World) (w4 : World) (G : Fo) (y : Int) (w6 : World) (K : Fo) (z : Int) (wm : World) (T : Fo) (hLn : Tm.len L ≤ 50000) (hLL : Tm.sameRows L L = true) {w0 : World} {a : Act} {w : World} (h : Hold 110 [(0, .sat (oldP (.row L) w2)), (15, .sat (wasP L wm)), (998, .sat (oldP .tabs w2)), (999, .tabs)] w0 a w)
    (hQ : ∀ a' w', Hold 110 [(2, .val (.bool true)), (998, .sat (oldP .tabs w2)), (999, .tabs)] w0 a' w' → Q .normal a' w') : (Code.region 20 so20Ops false).wp Tryd.prog Q a w := by
  refine region_seq (w0 := w) 7 (by kernel_rfl) ?_
  rw [show List.range 7 = [0, 1, 2, 3, 4, 5, 6] from rfl]
  refine env_one (i := 0) (d := 104) (k := .sat (oldP (.row L) w2)) (step_move (by kernel_rfl) (Opd.of_base 0 rfl) rfl) (by kernel_rfl) (by decide) h ?_
  clear h
  intro a w h
  refine env_one (i := 1) (d := 105) (k := .sat (wasP L wm)) (step_move (by kernel_rfl) (Opd.of_base 15 rfl) rfl) (by kernel_rfl) (by decide) h ?_
  clear h
  intro a w h
  refine env_one (i := 2) (d := 106) (k := .val (.bool true)) (step_sameAll hLn (by kernel_rfl) (Opd.old (Opd.of_base 104 rfl)) (Opd.was hLn (Opd.of_base 105 rfl)) hLL rfl) (by kernel_rfl) (by decide) h ?_
  clear h
  intro a w h
  refine env_one (i := 3) (d := 107) (k := .val (.bool true)) (step_move (by kernel_rfl) (Opd.of_base 106 rfl) rfl) (by kernel_rfl) (by decide) h ?_
  clear h
  intro a w h
  refine env_guard (i := 4) (d := 108) (g := 3) (dg := 107) (b := true) (k := .val (.bool true)) (step_awake 999 (by kernel_rfl) (Opd.of_base 999 rfl) rfl) (by kernel_rfl) (by decide) (by kernel_rfl) (by decide) rfl h ?_
  clear h
  intro a w h
  refine env_one (i := 5) (d := 109) (k := .val (.bool true)) (step_pick_yes (y := .const (.bool false)) (by kernel_rfl) (Opd.of_base 107 rfl) (Opd.of_base 108 rfl) rfl) (by kernel_rfl) (by decide) h ?_
  clear h
  intro a w h
  refine env_one (i := 6) (d := 2) (k := .val (.bool true)) (step_assign (by kernel_rfl) (Opd.of_base 109 rfl) rfl) (by kernel_rfl) (by decide) h ?_
  clear h
  intro a w h
  exact hQ a w (h.keep [2, 998, 999])
theorem law_sorts (F : Fo) (A : Option Addr) (c : Nat) (w : World) (hA : ArgsB w w.heap.size A (Tm.len F) F) (hT : Tabs w) :
    Calls Tryd.prog 4 #[.slice A (Tm.len F) c] w fun e w' => e = .returned (.bool true) ∧ Below w.heap.size w w' := by
  refine calls_of_wp Tryd.func4 so_body ?_
  obtain ⟨v0, hv0⟩ : ∃ v : Value, v = .slice A (Tm.len F) c := ⟨_, rfl⟩
  rw [← hv0]
  have hk0 : (Kd.row F).R v0 w := ⟨A, c, hv0, hA⟩
  have hsN : (#[v0] ++ Array.replicate (Tryd.f4.ntmps - #[v0].size) undef : Array Value).size = 110 := by kernel_rfl
  have gs0 : (#[v0] ++ Array.replicate (Tryd.f4.ntmps - #[v0].size) undef : Array Value).getD 0 undef = v0 := by kernel_rfl
  generalize (#[v0] ++ Array.replicate (Tryd.f4.ntmps - #[v0].size) undef : Array Value) = tm at hsN gs0 ⊢
  refine wp_seq ?_
  refine so0a_region F  (w0 := w) ⟨hsN, rfl, Below.refl _ _, (slots_cons 0 (by rw [gs0]; exact hk0) (slots_cons 999 (k0 := .tabs) hT slots_nil))⟩ ?_
  intro a w1 h
  show Code.wp _ _ _ a w1
  refine wp_seq ?_
  refine so1a_region F  h ?_
  intro a w1 h
  obtain ⟨L, hL⟩ : ∃ L : Fo, L = Tm.takeF F 40 := ⟨_, rfl⟩
  rw [← hL] at h
  have hL40 : Tm.len L ≤ 40 := by rw [hL]; exact few_len F
  have hLn : Tm.len L ≤ 50000 := by omega
  have hS0 : ∃ S x, S = (sortR L).1 ∧ x = (sortR L).2 := ⟨_, _, rfl, rfl⟩
  have hG0 : ∃ G y, G = (stableR L).1 ∧ y = (stableR L).2 := ⟨_, _, rfl, rfl⟩
  have hK0 : ∃ K z, K = (keysR L).1 ∧ z = (keysR L).2 := ⟨_, _, rfl, rfl⟩
  obtain ⟨S, x, hS, hx⟩ := hS0
  obtain ⟨G, y, hG, hy⟩ := hG0
  obtain ⟨K, z, hK, hz⟩ := hK0
  have hSn : Tm.len S ≤ 50000 := by rw [hS]; exact Nat.le_trans (sortR_len L) hLn
  have hGn : Tm.len G ≤ 50000 := by rw [hG]; exact Nat.le_trans (stableR_len L) hLn
  have hKn : Tm.len K ≤ 50000 := by rw [hK]; exact Nat.le_trans (keysR_len L) hLn
  have hSS : Tm.sameRows S S = true := Tm.sameRows_refl (by rw [hS]; exact allV_sortR L)
  have hGG : Tm.sameRows G G = true := Tm.sameRows_refl (by rw [hG]; exact allV_stableR L)
  have hKK : Tm.sameRows K K = true := Tm.sameRows_refl (by rw [hK]; exact allV_keysR L)
  show Code.wp _ _ _ a w1
  refine wp_seq ?_
  have hb0 := h.world
  obtain ⟨w2, rfl⟩ : ∃ w2 : World, w2 = w1 := ⟨_, rfl⟩
  have h := (h.since rfl).keep [0, 998, 999]
  refine so2a_region L w2 hLn h ?_
  intro a w1 h
  rw [← hS, ← hx] at h
  show Code.wp _ _ _ a w1
  refine wp_seq ?_
  obtain ⟨w4, rfl⟩ : ∃ w4 : World, w4 = w1 := ⟨_, rfl⟩
  have hw4 : w2.heap.size ≤ w4.heap.size := by have := h.world.size; exact this
  have h : Hold 110 [(0, .sat (oldP (.row L) w2)), (3, .sat (rngP S w2 w4)), (4, .val (.int .i64 x)), (998, .sat (oldP .tabs w2)), (997, .sat (oldP .tabs w4)), (999, .tabs)] w2 a w4 := ⟨h.size, h.defers, h.world, slots_cons 0 (h.get 0 rfl) (slots_cons 3 (rngE.fix (h.get 3 rfl)) (slots_cons 4 (h.get 4 rfl) (slots_cons 998 (h.get 998 rfl) (slots_cons 997 ((show (Kd.sat (oldP .tabs w4)).R _ w4 from ⟨h.get 999 rfl, Below.refl _ _⟩)) (slots_cons 999 (h.get 999 rfl) (slots_nil))))))⟩
  refine so3a_region L S x w2 w4 hLn h ?_
  intro a w1 h
  rw [← hG, ← hy] at h
  show Code.wp _ _ _ a w1
  refine wp_seq ?_
  obtain ⟨w6, rfl⟩ : ∃ w6 : World, w6 = w1 := ⟨_, rfl⟩
  have hw6 : w4.heap.size ≤ w6.heap.size := by have := (show (Kd.sat (oldP .tabs w4)).R _ w6 from h.get 997 rfl).2.size; exact this
  have h : Hold 110 [(0, .sat (oldP (.row L) w2)), (3, .sat (rngP S w2 w4)), (4, .val (.int .i64 x)), (5, .sat (rngP G w4 w6)), (6, .val (.int .i64 y)), (998, .sat (oldP .tabs w2)), (997, .sat (oldP .tabs w4)), (996, .sat (oldP .tabs w6)), (999, .tabs)] w2 a w6 := ⟨h.size, h.defers, h.world, slots_cons 0 (h.get 0 rfl) (slots_cons 3 (h.get 3 rfl) (slots_cons 4 (h.get 4 rfl) (slots_cons 5 (rngE.fix (h.get 5 rfl)) (slots_cons 6 (h.get 6 rfl) (slots_cons 998 (h.get 998 rfl) (slots_cons 997 (h.get 997 rfl) (slots_cons 996 ((show (Kd.sat (oldP .tabs w6)).R _ w6 from ⟨h.get 999 rfl, Below.refl _ _⟩)) (slots_cons 999 (h.get 999 rfl) (slots_nil)))))))))⟩
  refine so4a_region L S x w2 w4 G y w6 hLn h ?_
  intro a w1 h
  rw [← hK, ← hz] at h
  show Code.wp _ _ _ a w1
  refine wp_seq ?_
  refine so5a_region L S x w2 w4 G y w6 K z hLn h ?_
  intro a w1 h
  rw [← hS, ← hx] at h
  show Code.wp _ _ _ a w1
  refine wp_seq ?_
  refine so6a_region L S x w2 w4 G y w6 K z hLn h ?_
  intro a w1 h
  rw [← hG, ← hy] at h
  show Code.wp _ _ _ a w1
  refine wp_seq ?_
  refine so7a_region L S x w2 w4 G y w6 K z hLn h ?_
  intro a w1 h
  rw [← hK, ← hz] at h
  show Code.wp _ _ _ a w1
  refine wp_seq ?_
  refine wp_seq ?_
  refine so8a_region L S x w2 w4 G y w6 K z hSn hGn hKn hSS hGG hKK h ?_
  intro a w1 h
  show Code.wp _ _ _ a w1
  refine env_cond (b := false) rfl h ?_
  refine wp_skip ?_
  have h := h.keep [0, 3, 5, 7, 998, 997, 996, 999]
  show Code.wp _ _ _ a w1
  refine wp_seq ?_
  refine wp_seq ?_
  cases hv : Tm.allV L
  · refine so10a_region L S x w2 w4 G y w6 K z hLn hv h ?_
    intro a w1 h
    show Code.wp _ _ _ a w1
    refine env_cond (b := true) rfl h ?_
    have h := h.keep [0, 3, 5, 7, 998, 997, 996, 999]
    show Code.wp _ _ _ a w1
    refine wp_seq ?_
    refine so11a_region L S x w2 w4 G y w6 K z  h ?_
    intro a w1 h
    show Code.wp _ _ _ a w1
    refine wp_ret ?_
    (try simp only [then_ret, block_ret])
    refine law_out rfl (h.get 2 rfl) h.defers ⟨rfl, hb0.trans (h.world.mono hb0.size)⟩
  · refine so10b_region L S x w2 w4 G y w6 K z hLn hv h ?_
    intro a w1 h
    show Code.wp _ _ _ a w1
    refine env_cond (b := false) rfl h ?_
    refine wp_skip ?_
    have h := h.keep [0, 3, 5, 7, 998, 997, 996, 999]
    show Code.wp _ _ _ a w1
    refine wp_seq ?_
    obtain ⟨wm, rfl⟩ : ∃ wm : World, wm = w1 := ⟨_, rfl⟩
    have hwm : w6.heap.size ≤ wm.heap.size := by have := (show (Kd.sat (oldP .tabs w6)).R _ wm from h.get 996 rfl).2.size; exact this
    refine so12_region L S G K w2 w4 w6 wm (h.keep [0, 3, 5, 7, 998, 999]) ?_
    intro a w1 h
    show Code.wp _ _ _ a w1
    refine wp_seq ?_
    refine wp_seq ?_
    refine so13a_region L S x w2 w4 G y w6 K z wm  h ?_
    intro a w1 h
    show Code.wp _ _ _ a w1
    refine wp_block ?_
    have h := h.keep [16, 15, 0, 3, 5, 7, 998, 999]
    refine wp_for (n := (Tm.len L)) (fun kk a w1 => ∃ T : Fo, L = Tm.app T (Tm.dropF L kk) ∧ Hold 110 [(16, .val (.int .i64 ((kk : Nat) : Int))), (15, .sat (wasP T wm)), (0, .sat (oldP (.row L) w2)), (3, .sat (rngP S w2 w4)), (5, .sat (rngP G w4 w6)), (7, .sat (rngP K w6 wm)), (998, .sat (oldP .tabs w2)), (999, .tabs)] w2 a w1) ⟨_, (by rw [Tm.drop_zero]; rfl), h⟩ ?_ ?_
    · rintro kk a w1 hi ⟨T, hT, h⟩
      refine wp_seq ?_
      refine wp_seq ?_
      refine so14a_region L S x w2 w4 G y w6 K z wm kk T hLn hi h ?_
      intro a w1 h
      show Code.wp _ _ _ a w1
      refine env_cond (b := true) rfl h ?_
      refine wp_skip ?_
      have h := h.keep [16, 15, 0, 3, 5, 7, 998, 999]
      show Code.wp _ _ _ a w1
      refine wp_seq ?_
      refine wp_block ?_
      obtain ⟨p1, l1, r1, d1⟩ := Tm.drop_at (F := L) (k := kk) hi
      have hv1 : Tm.validB p1 l1 = true := Tm.allV_iff.1 hv _ (List.mem_of_getElem? (Tm.toL_at d1))
      have hT2 : Tm.len T ≤ 1000 := by have := congrArg Tm.len hT; rw [Tm.len_app] at this; omega
      refine so16_region L S G K w2 w4 w6 wm T kk p1 l1 r1 d1 hv1 hT2 hw4 hw6 hwm h ?_
      intro a w1 h
      show Code.wp _ _ _ a w1
      refine so15a_region L S x w2 w4 G y w6 K z wm kk T p1 l1 r1 hLn hi h ?_
      intro a w1 h
      exact ⟨_, stepT hT d1, h.keep [16, 15, 0, 3, 5, 7, 998, 999]⟩
    · rintro a w1 ⟨T, hT, h⟩
      have hTL : T = L := by rw [Tm.drop_end, Tm.app_nil] at hT; exact hT.symm
      rw [hTL] at h
      refine wp_seq ?_
      refine wp_seq ?_
      refine so14b_region L S x w2 w4 G y w6 K z wm T hLn h ?_
      intro a w1 h
      show Code.wp _ _ _ a w1
      refine env_cond (b := false) rfl h ?_
      refine wp_exit ?_
      have h := h.keep [15, 0, 3, 5, 7, 998, 999]
      show Code.wp _ _ _ a w1
      refine wp_seq ?_
      have h0 : Hold 110 [(3, .sat (rngP S w2 w4)), (0, .sat (oldP (.row L) w2)), (5, .sat (rngP G w4 w6)), (7, .sat (rngP K w6 wm)), (15, .sat (wasP L wm)), (998, .sat (oldP .tabs w2))] w2 a w1 := ⟨h.size, h.defers, h.world, slots_cons 3 (h.get 3 rfl) (slots_cons 0 (h.get 0 rfl) (slots_cons 5 (h.get 5 rfl) (slots_cons 7 (h.get 7 rfl) (slots_cons 15 (h.get 15 rfl) (slots_cons 998 (h.get 998 rfl) (slots_nil))))))⟩
      refine spoil_region (s := 3) (d1 := 98) (d2 := 99) (env' := [(0, .sat (oldP (.row L) w2)), (5, .sat (rngP G w4 w6)), (7, .sat (rngP K w6 wm)), (15, .sat (wasP L wm)), (998, .sat (oldP .tabs w2))]) (F := S) (wa := w2) (wb := w4) (by kernel_rfl) (by kernel_rfl) (by kernel_rfl) h0 rfl hSn (by decide) (by omega) ?_ ?_
      · refine bears_cons 0 rfl (by decide) (by decide) (Bears.old fun b hb => by omega) (bears_cons 5 rfl (by decide) (by decide) (Bears.rng fun b hb => by omega) (bears_cons 7 rfl (by decide) (by decide) (Bears.rng fun b hb => by omega) (bears_cons 15 rfl (by decide) (by decide) (Bears.was fun b hb => by omega) (bears_cons 998 rfl (by decide) (by decide) (Bears.old fun b hb => by omega) (bears_nil)))))
      intro a w1 h
      show Code.wp _ _ _ a w1
      refine wp_seq ?_
      have h0 : Hold 110 [(5, .sat (rngP G w4 w6)), (0, .sat (oldP (.row L) w2)), (7, .sat (rngP K w6 wm)), (15, .sat (wasP L wm)), (998, .sat (oldP .tabs w2))] w2 a w1 := ⟨h.size, h.defers, h.world, slots_cons 5 (h.get 5 rfl) (slots_cons 0 (h.get 0 rfl) (slots_cons 7 (h.get 7 rfl) (slots_cons 15 (h.get 15 rfl) (slots_cons 998 (h.get 998 rfl) (slots_nil)))))⟩
      refine spoil_region (s := 5) (d1 := 100) (d2 := 101) (env' := [(0, .sat (oldP (.row L) w2)), (7, .sat (rngP K w6 wm)), (15, .sat (wasP L wm)), (998, .sat (oldP .tabs w2))]) (F := G) (wa := w4) (wb := w6) (by kernel_rfl) (by kernel_rfl) (by kernel_rfl) h0 rfl hGn (by decide) (by omega) ?_ ?_
      · refine bears_cons 0 rfl (by decide) (by decide) (Bears.old fun b hb => by omega) (bears_cons 7 rfl (by decide) (by decide) (Bears.rng fun b hb => by omega) (bears_cons 15 rfl (by decide) (by decide) (Bears.was fun b hb => by omega) (bears_cons 998 rfl (by decide) (by decide) (Bears.old fun b hb => by omega) (bears_nil))))
      intro a w1 h
      show Code.wp _ _ _ a w1
      refine wp_seq ?_
      have h0 : Hold 110 [(7, .sat (rngP K w6 wm)), (0, .sat (oldP (.row L) w2)), (15, .sat (wasP L wm)), (998, .sat (oldP .tabs w2))] w2 a w1 := ⟨h.size, h.defers, h.world, slots_cons 7 (h.get 7 rfl) (slots_cons 0 (h.get 0 rfl) (slots_cons 15 (h.get 15 rfl) (slots_cons 998 (h.get 998 rfl) (slots_nil))))⟩
      refine spoil_region (s := 7) (d1 := 102) (d2 := 103) (env' := [(0, .sat (oldP (.row L) w2)), (15, .sat (wasP L wm)), (998, .sat (oldP .tabs w2))]) (F := K) (wa := w6) (wb := wm) (by kernel_rfl) (by kernel_rfl) (by kernel_rfl) h0 rfl hKn (by decide) (by omega) ?_ ?_
      · refine bears_cons 0 rfl (by decide) (by decide) (Bears.old fun b hb => by omega) (bears_cons 15 rfl (by decide) (by decide) (Bears.was fun b hb => by omega) (bears_cons 998 rfl (by decide) (by decide) (Bears.old fun b hb => by omega) (bears_nil)))
      intro a w1 h
      show Code.wp _ _ _ a w1
      refine wp_seq ?_
      have hLL : Tm.sameRows L L = true := Tm.sameRows_refl hv
      have h : Hold 110 [(0, .sat (oldP (.row L) w2)), (15, .sat (wasP L wm)), (998, .sat (oldP .tabs w2)), (999, .tabs)] w2 a w1 := ⟨h.size, h.defers, h.world, slots_cons 0 (h.get 0 rfl) (slots_cons 15 (h.get 15 rfl) (slots_cons 998 (h.get 998 rfl) (slots_cons 999 (k0 := .tabs) (oldP.to (k := .tabs) (v := undef) (h.get 998 rfl)) slots_nil)))⟩
      refine so20a_region L S x w2 w4 G y w6 K z wm T hLn hLL h ?_
      intro a w1 h
      show Code.wp _ _ _ a w1
      refine wp_ret ?_
      (try simp only [then_ret, block_ret])
      refine law_out rfl (h.get 2 rfl) h.defers ⟨rfl, hb0.trans (h.world.mono hb0.size)⟩
end Go.Proofs.YtcjakmafojbhlaaDoor
