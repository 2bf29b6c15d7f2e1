/-
  TermListed answers true.
-/
import Derived.Test.YtmljkhofahgelaaLawRen
namespace Go.Proofs.Ytmljkhofahgelaa
set_option linter.unusedVariables false
set_option linter.unusedSimpArgs false
open Go.RowKit
namespace Tm
theorem app_drop (F G : Fo) : ∀ k, k ≤ len F → dropF (app F G) k = app (dropF F k) G := by
  induction F with
  | nil =>
    intro k hk
    obtain rfl : k = 0 := by simp only [len] at hk; omega
    rw [drop_zero, drop_zero]
  | node p l r _ ih =>
    intro k hk
    cases k with
    | zero => rfl
    | succ k => simp only [len] at hk; exact ih k (by omega)
theorem consF_app (F G : Fo) (p : Pay) (l : Fo) : consF (app F G) p l = consF F (consF G p l).1 (consF G p l).2 := by
  induction F with
  | nil => rfl
  | node q m r _ ih => simp only [app, consF, ih]
theorem consF_size (F : Fo) (p : Pay) (l : Fo) : 1 + size (consF F p l).2 = 1 + size l + len F + size F := by
  induction F with
  | nil => rfl
  | node q m r _ ih => simp only [consF, size, len]; omega
theorem consF_good (F : Fo) {p : Pay} {l : Fo} (h : goodB p l = true) (hF : allB F = true) : goodB (consF F p l).1 (consF F p l).2 = true := by
  induction F with
  | nil => exact h
  | node q m r _ ih =>
    rw [allB_cons, Bool.and_eq_true] at hF
    have h1 := ih hF.2
    show (nodeB (3, 0, ⟨#[46]⟩) 2 && allB (.node q m (.node (consF r p l).1 (consF r p l).2 .nil))) = true
    rw [allB_cons, allB_cons, hF.1, h1]
    decide
theorem elems_cons (F : Fo) (p : Pay) (l : Fo) : elemsOf (consF F p l).1 (consF F p l).2 = (app F (elemsOf p l).1, (elemsOf p l).2) := by
  induction F with
  | nil => rfl
  | node q m r _ ih =>
    show elemsOf (3, 0, ⟨#[46]⟩) (.node q m (.node (consF r p l).1 (consF r p l).2 .nil)) = _
    rw [elemsOf_cons _ _ _ _ rfl rfl, ih]
    rfl
theorem elems_back (n : Nat) : ∀ (p : Pay) (l : Fo), size l < n → goodB p l = true → consF (elemsOf p l).1 (elemsOf p l).2.1 (elemsOf p l).2.2 = (p, l) ∧ goodB (elemsOf p l).2.1 (elemsOf p l).2.2 = true := by
  induction n with
  | zero => intro p l h; omega
  | succ n ih =>
    intro p l hn hg
    by_cases h : p.1 = 3 ∧ p.2.2 = ⟨#[46]⟩ ∧ len l = 2
    · obtain ⟨h3, hd, h2⟩ := h
      obtain ⟨p0, l0, p1, l1, rfl⟩ := len_two h2
      obtain ⟨k, v, s⟩ := p
      have h3' : k = 3 := h3
      have hd' : s = ⟨#[46]⟩ := hd
      subst h3' hd'
      unfold goodB at hg
      rw [Bool.and_eq_true, allB_cons, Bool.and_eq_true, allB_cons, Bool.and_eq_true] at hg
      obtain ⟨rfl, _⟩ := nodeB_struct hg.1
      rw [elemsOf_cons (p := (3, 0, ⟨#[46]⟩)) _ _ _ _ rfl rfl]
      obtain ⟨e1, e2⟩ := ih p1 l1 (by simp only [size] at hn; omega) hg.2.2.1
      refine ⟨?_, e2⟩
      show (((3, 0, ⟨#[46]⟩) : Pay), Fo.node p0 l0 (.node (consF (elemsOf p1 l1).1 (elemsOf p1 l1).2.1 (elemsOf p1 l1).2.2).1 (consF (elemsOf p1 l1).1 (elemsOf p1 l1).2.1 (elemsOf p1 l1).2.2).2 .nil)) = _
      rw [e1]
    · rw [elemsOf_end h]
      exact ⟨rfl, hg⟩
/-- The size that the rounds reckon. -/
def listSz (F l : Fo) (k : Nat) : Nat := 1 + size l + k + (size F - size (dropF F k))
theorem listSz_zero (F l : Fo) : listSz F l 0 = 1 + size l := by unfold listSz; rw [drop_zero]; omega
theorem listSz_succ (F l : Fo) {k : Nat} {q : Pay} {m r : Fo} (hd : dropF F k = .node q m r) : listSz F l (k + 1) = listSz F l k + 1 + (1 + size m) := by
  unfold listSz
  have h1 := size_drop_le F k
  rw [drop_succ hd]
  rw [hd] at h1 ⊢
  simp only [size] at h1 ⊢
  omega
theorem listSz_end (F l : Fo) : listSz F l (len F) = 1 + size l + len F + size F := by unfold listSz; rw [drop_end]; rfl
theorem all_each : ∀ F : Fo, (∀ j, j < len F → ∀ q m r, dropF F j = .node q m r → validB q m = true) → allB F = true
  | .nil, _ => rfl
  | .node p l r, h => by
    rw [allB_cons, (valid_parts (h 0 (by simp only [len]; omega) p l r rfl)).2, all_each r fun j hj q m s hd => h (j + 1) (by simp only [len]; omega) q m s hd]
    rfl
/-- What holds if the elements and the tail are valid and the list isn't too large. -/
structure Listed (F : Fo) (p : Pay) (l : Fo) : Prop where
  elems : elemsFn (listFn F p l).1 (listFn F p l).2 = (app F (elemsOf p l).1, (elemsOf p l).2.1, (elemsOf p l).2.2)
  size : sizeB (listFn F p l).2 = listSz F l (len F)
  valid : validB (listFn F p l).1 (listFn F p l).2 = true
  back : listFn (app F (elemsOf p l).1) (elemsOf p l).2.1 (elemsOf p l).2.2 = ((listFn F p l).1, (listFn F p l).2)
  tail : elemsFn p l = ((elemsOf p l).1, (elemsOf p l).2.1, (elemsOf p l).2.2)
  vt : validB (elemsOf p l).2.1 (elemsOf p l).2.2 = true
  lens : len (app F (elemsOf p l).1) ≤ 2000
theorem listed {F : Fo} {p : Pay} {l : Fo} (hv : validB p l = true) (h : ∀ j, j < len F → ∀ q m r, dropF F j = .node q m r → validB q m = true) (hs : listSz F l (len F) ≤ 2000) : Listed F p l := by
  obtain ⟨hv1, hv2⟩ := valid_parts hv
  have hF := all_each F h
  have e1 := consF_size F p l
  rw [listSz_end] at hs
  have hval : validB (consF F p l).1 (consF F p l).2 = true := valid_mk (by omega) (consF_good F hv2 hF)
  have e2 : listFn F p l = consF F p l := by unfold listFn; rw [if_pos (by omega)]; unfold cloneOf; rw [if_pos hval]
  obtain ⟨b1, b2⟩ := elems_back (Tm.size l + 1) p l (by omega) hv2
  have e3 := consF_size (elemsOf p l).1 (elemsOf p l).2.1 (elemsOf p l).2.2
  rw [b1] at e3
  have e4 : consF (app F (elemsOf p l).1) (elemsOf p l).2.1 (elemsOf p l).2.2 = consF F p l := by rw [consF_app, b1]
  have hl : len (app F (elemsOf p l).1) ≤ 2000 := by
    rw [len_app]
    have e3' : 1 + Tm.size l = 1 + Tm.size (elemsOf p l).2.2 + len (elemsOf p l).1 + Tm.size (elemsOf p l).1 := e3
    omega
  refine ⟨?_, ?_, by rw [e2]; exact hval, ?_, by unfold elemsFn; rw [if_pos hv], valid_mk ?_ b2, hl⟩
  · rw [e2]; unfold elemsFn; rw [if_pos hval]; exact elems_cons F p l
  · rw [e2]; unfold sizeB; rw [listSz_end]; omega
  · rw [e2]
    unfold listFn
    rw [if_pos hl, e4]
    unfold cloneOf
    rw [if_pos hval]
  · have e3' : 1 + Tm.size l = 1 + Tm.size (elemsOf p l).2.2 + len (elemsOf p l).1 + Tm.size (elemsOf p l).1 := e3
    omega
end Tm
noncomputable def li0Ops : Array Oper := ((Try.f9.body).bind (findReg 0)).getD #[]
noncomputable def li1Ops : Array Oper := ((Try.f9.body).bind (findReg 1)).getD #[]
noncomputable def li2Ops : Array Oper := ((Try.f9.body).bind (findReg 2)).getD #[]
noncomputable def li3Ops : Array Oper := ((Try.f9.body).bind (findReg 3)).getD #[]
noncomputable def li4Ops : Array Oper := ((Try.f9.body).bind (findReg 4)).getD #[]
noncomputable def li5Ops : Array Oper := ((Try.f9.body).bind (findReg 5)).getD #[]
noncomputable def li6Ops : Array Oper := ((Try.f9.body).bind (findReg 6)).getD #[]
noncomputable def li7Ops : Array Oper := ((Try.f9.body).bind (findReg 7)).getD #[]
noncomputable def li8Ops : Array Oper := ((Try.f9.body).bind (findReg 8)).getD #[]
noncomputable def li9Ops : Array Oper := ((Try.f9.body).bind (findReg 9)).getD #[]
noncomputable def li10Ops : Array Oper := ((Try.f9.body).bind (findReg 10)).getD #[]
noncomputable def li11Ops : Array Oper := ((Try.f9.body).bind (findReg 11)).getD #[]
noncomputable def li12Ops : Array Oper := ((Try.f9.body).bind (findReg 12)).getD #[]
noncomputable def li13Ops : Array Oper := ((Try.f9.body).bind (findReg 13)).getD #[]
noncomputable def li14Ops : Array Oper := ((Try.f9.body).bind (findReg 14)).getD #[]
noncomputable def li15Ops : Array Oper := ((Try.f9.body).bind (findReg 15)).getD #[]
noncomputable def li16Ops : Array Oper := ((Try.f9.body).bind (findReg 16)).getD #[]
noncomputable def li17Ops : Array Oper := ((Try.f9.body).bind (findReg 17)).getD #[]
noncomputable def li18Ops : Array Oper := ((Try.f9.body).bind (findReg 18)).getD #[]
noncomputable def li19Ops : Array Oper := ((Try.f9.body).bind (findReg 19)).getD #[]
noncomputable def li20Ops : Array Oper := ((Try.f9.body).bind (findReg 20)).getD #[]
noncomputable def li21Ops : Array Oper := ((Try.f9.body).bind (findReg 21)).getD #[]
noncomputable def li22Ops : Array Oper := ((Try.f9.body).bind (findReg 22)).getD #[]
theorem li_body : Try.f9.body = some (.seq (.region 0 li0Ops false) (.seq (.region 1 li1Ops false) (.seq (.seq (.region 2 li2Ops false) (.cond (.tmp 23) (.seq (.region 3 li3Ops false) .ret) .skip)) (.seq (.region 4 li4Ops false) (.seq (.seq (.region 5 li5Ops false) (.block 0 (.loop (.seq (.seq (.region 6 li6Ops false) (.cond (.tmp 30) .skip (.exit 0))) (.seq (.block 1 (.seq (.seq (.region 8 li8Ops false) (.cond (.tmp 38) (.seq (.region 9 li9Ops false) .ret) .skip)) (.region 10 li10Ops false))) (.region 7 li7Ops false)))))) (.seq (.seq (.region 11 li11Ops false) (.cond (.tmp 49) (.seq (.region 12 li12Ops false) .ret) .skip)) (.seq (.region 13 li13Ops false) (.seq (.region 14 li14Ops false) (.seq (.seq (.region 15 li15Ops false) (.cond (.tmp 80) (.seq (.region 16 li16Ops false) .ret) .skip)) (.seq (.seq (.region 17 li17Ops false) (.block 2 (.loop (.seq (.seq (.region 18 li18Ops false) (.cond (.tmp 84) .skip (.exit 2))) (.seq (.block 3 (.seq (.region 20 li20Ops true) (.cond (.tmp 96) (.seq (.region 21 li21Ops false) .ret) .skip))) (.region 19 li19Ops false)))))) (.seq (.region 22 li22Ops true) .ret))))))))))) := by kernel_rfl
theorem li0_region {Q : Exit → Act → World → Prop} (F : Fo) (p : Pay) (l : Fo)  {w0 : World} {a : Act} {w : World} (h : Hold 105 [(0, .row F), (1, .term p l)] w0 a w)
    (hQ : ∀ a' w', Hold 105 [(0, .row F), (3, .ptrT p l), (4, .val (.bool false))] w0 a' w' → Q .normal a' w') : (Code.region 0 li0Ops false).wp Try.prog Q a w := by
  refine region_seq (w0 := w) 2 (by kernel_rfl) ?_
  rw [show List.range 2 = [0, 1] from rfl]
  refine env_one (i := 0) (d := 3) (k := .ptrT p l) (step_box (by kernel_rfl) (Opd.of_base 1 rfl) rfl) (by kernel_rfl) (by decide) h ?_
  clear h
  intro a w h
  refine env_one (i := 1) (d := 4) (k := .val (.bool false)) (step_assign (by kernel_rfl) (Opd.const _) rfl) (by kernel_rfl) (by decide) h ?_
  clear h
  intro a w h
  exact hQ a w (h.keep [0, 3, 4])
theorem li1_region {Q : Exit → Act → World → Prop} (F : Fo) (p : Pay) (l : Fo)  {w0 : World} {a : Act} {w : World} (h : Hold 105 [(0, .row F), (3, .ptrT p l), (4, .val (.bool false))] w0 a w)
    (hQ : ∀ a' w', Hold 105 [(0, .row F), (3, .ptrT p l), (4, .val (.bool false)), (5, .ptrT (Tm.listFn F p l).1 (Tm.listFn F p l).2)] w0 a' w' → Q .normal a' w') : (Code.region 1 li1Ops false).wp Try.prog Q a w := by
  refine region_seq (w0 := w) 5 (by kernel_rfl) ?_
  rw [show List.range 5 = [0, 1, 2, 3, 4] from rfl]
  refine env_one (i := 0) (d := 13) (k := .row F) (step_move (by kernel_rfl) (Opd.of_base 0 rfl) rfl) (by kernel_rfl) (by decide) h ?_
  clear h
  intro a w h
  refine env_one (i := 1) (d := 14) (k := .term p l) (step_load_term (by kernel_rfl) (Opd.of_base 3 rfl) rfl) (by kernel_rfl) (by decide) h ?_
  clear h
  intro a w h
  refine env_one (i := 2) (d := 15) (k := .term (Tm.listFn F p l).1 (Tm.listFn F p l).2) (step_list (by kernel_rfl) (Opd.of_base 13 rfl) (Opd.of_base 14 rfl) rfl rfl) (by kernel_rfl) (by decide) h ?_
  clear h
  intro a w h
  refine env_box (i := 3) (d := 5) (by kernel_rfl) (by decide) (by kernel_rfl) (by decide) (s := 15) rfl h ?_
  clear h
  intro a w h
  exact hQ a w (h.keep [0, 3, 4, 5])
theorem li2f_region {Q : Exit → Act → World → Prop} (F : Fo) (p : Pay) (l : Fo) (hv : Tm.validB p l = false) {w0 : World} {a : Act} {w : World} (h : Hold 105 [(0, .row F), (3, .ptrT p l), (4, .val (.bool false)), (5, .ptrT (Tm.listFn F p l).1 (Tm.listFn F p l).2)] w0 a w)
    (hQ : ∀ a' w', Hold 105 [(23, .val (.bool true))] w0 a' w' → Q .normal a' w') : (Code.region 2 li2Ops false).wp Try.prog Q a w := by
  refine region_seq (w0 := w) 8 (by kernel_rfl) ?_
  rw [show List.range 8 = [0, 1, 2, 3, 4, 5, 6, 7] from rfl]
  refine env_one (i := 0) (d := 16) (k := .term p l) (step_load_term (by kernel_rfl) (Opd.of_base 3 rfl) rfl) (by kernel_rfl) (by decide) h ?_
  clear h
  intro a w h
  refine env_one (i := 1) (d := 17) (k := .val (.bool false)) (step_rvalid (by kernel_rfl) (Opd.of_base 16 rfl) hv rfl) (by kernel_rfl) (by decide) h ?_
  clear h
  intro a w h
  refine env_one (i := 2) (d := 18) (k := .val (.bool true)) (step_not (by kernel_rfl) (Opd.of_base 17 rfl) rfl) (by kernel_rfl) (by decide) h ?_
  clear h
  intro a w h
  refine env_one (i := 3) (d := 19) (k := .val (.bool true)) (step_move (by kernel_rfl) (Opd.of_base 18 rfl) rfl) (by kernel_rfl) (by decide) h ?_
  clear h
  intro a w h
  refine env_skip (i := 4) (d := 20) (g := 3) (dg := 19) (b := false) (by kernel_rfl) (by decide) (by kernel_rfl) rfl rfl h ?_
  clear h
  intro a w h
  refine env_skip (i := 5) (d := 21) (g := 3) (dg := 19) (b := false) (by kernel_rfl) (by decide) (by kernel_rfl) rfl rfl h ?_
  clear h
  intro a w h
  refine env_skip (i := 6) (d := 22) (g := 3) (dg := 19) (b := false) (by kernel_rfl) (by decide) (by kernel_rfl) rfl rfl h ?_
  clear h
  intro a w h
  refine env_one (i := 7) (d := 23) (k := .val (.bool true)) (step_pick_yes (y := .tmp 22) (by kernel_rfl) (Opd.of_base 19 rfl) (Opd.const _) rfl) (by kernel_rfl) (by decide) h ?_
  clear h
  intro a w h
  exact hQ a w (h.keep [23])
theorem li3_region {Q : Exit → Act → World → Prop} (F : Fo) (p : Pay) (l : Fo)  {w0 : World} {a : Act} {w : World} (h : Hold 105 [(23, .val (.bool true))] w0 a w)
    (hQ : ∀ a' w', Hold 105 [(4, .val (.bool true))] w0 a' w' → Q .normal a' w') : (Code.region 3 li3Ops false).wp Try.prog Q a w := by
  refine region_seq (w0 := w) 2 (by kernel_rfl) ?_
  rw [show List.range 2 = [0, 1] from rfl]
  refine env_one (i := 0) (d := 24) (k := .val (.bool true)) (step_awake (by kernel_rfl) rfl) (by kernel_rfl) (by decide) h ?_
  clear h
  intro a w h
  refine env_one (i := 1) (d := 4) (k := .val (.bool true)) (step_assign (by kernel_rfl) (Opd.of_base 24 rfl) rfl) (by kernel_rfl) (by decide) h ?_
  clear h
  intro a w h
  exact hQ a w (h.keep [4])
theorem li2b_region {Q : Exit → Act → World → Prop} (F : Fo) (p : Pay) (l : Fo) (hv : Tm.validB p l = true) (hb : decide ((2000 : Int) < ((Tm.len F : Nat) : Int)) = true) {w0 : World} {a : Act} {w : World} (h : Hold 105 [(0, .row F), (3, .ptrT p l), (4, .val (.bool false)), (5, .ptrT (Tm.listFn F p l).1 (Tm.listFn F p l).2)] w0 a w)
    (hQ : ∀ a' w', Hold 105 [(23, .val (.bool true))] w0 a' w' → Q .normal a' w') : (Code.region 2 li2Ops false).wp Try.prog Q a w := by
  refine region_seq (w0 := w) 8 (by kernel_rfl) ?_
  rw [show List.range 8 = [0, 1, 2, 3, 4, 5, 6, 7] from rfl]
  refine env_one (i := 0) (d := 16) (k := .term p l) (step_load_term (by kernel_rfl) (Opd.of_base 3 rfl) rfl) (by kernel_rfl) (by decide) h ?_
  clear h
  intro a w h
  refine env_one (i := 1) (d := 17) (k := .val (.bool true)) (step_rvalid (by kernel_rfl) (Opd.of_base 16 rfl) hv rfl) (by kernel_rfl) (by decide) h ?_
  clear h
  intro a w h
  refine env_one (i := 2) (d := 18) (k := .val (.bool false)) (step_not (by kernel_rfl) (Opd.of_base 17 rfl) rfl) (by kernel_rfl) (by decide) h ?_
  clear h
  intro a w h
  refine env_one (i := 3) (d := 19) (k := .val (.bool false)) (step_move (by kernel_rfl) (Opd.of_base 18 rfl) rfl) (by kernel_rfl) (by decide) h ?_
  clear h
  intro a w h
  refine env_guard (i := 4) (d := 20) (g := 3) (dg := 19) (b := false) (k := .row F) (step_move (by kernel_rfl) (Opd.of_base 0 rfl) rfl) (by kernel_rfl) (by decide) (by kernel_rfl) (by decide) rfl h ?_
  clear h
  intro a w h
  refine env_guard (i := 5) (d := 21) (g := 3) (dg := 19) (b := false) (k := .val (.int .i64 ((Tm.len F : Nat) : Int))) (step_len_row (by kernel_rfl) (Opd.of_base 20 rfl) rfl) (by kernel_rfl) (by decide) (by kernel_rfl) (by decide) rfl h ?_
  clear h
  intro a w h
  refine env_guard (i := 6) (d := 22) (g := 3) (dg := 19) (b := false) (k := .val (.bool true)) (step_gt_int (by kernel_rfl) (Opd.of_base 21 rfl) (Opd.const _) hb rfl) (by kernel_rfl) (by decide) (by kernel_rfl) (by decide) rfl h ?_
  clear h
  intro a w h
  refine env_one (i := 7) (d := 23) (k := .val (.bool true)) (step_pick_no (x := .const (.bool true)) (by kernel_rfl) (Opd.of_base 19 rfl) (Opd.of_base 22 rfl) rfl) (by kernel_rfl) (by decide) h ?_
  clear h
  intro a w h
  exact hQ a w (h.keep [23])
theorem li2t_region {Q : Exit → Act → World → Prop} (F : Fo) (p : Pay) (l : Fo) (hv : Tm.validB p l = true) (hb : decide ((2000 : Int) < ((Tm.len F : Nat) : Int)) = false) {w0 : World} {a : Act} {w : World} (h : Hold 105 [(0, .row F), (3, .ptrT p l), (4, .val (.bool false)), (5, .ptrT (Tm.listFn F p l).1 (Tm.listFn F p l).2)] w0 a w)
    (hQ : ∀ a' w', Hold 105 [(0, .row F), (3, .ptrT p l), (5, .ptrT (Tm.listFn F p l).1 (Tm.listFn F p l).2), (23, .val (.bool false))] w0 a' w' → Q .normal a' w') : (Code.region 2 li2Ops false).wp Try.prog Q a w := by
  refine region_seq (w0 := w) 8 (by kernel_rfl) ?_
  rw [show List.range 8 = [0, 1, 2, 3, 4, 5, 6, 7] from rfl]
  refine env_one (i := 0) (d := 16) (k := .term p l) (step_load_term (by kernel_rfl) (Opd.of_base 3 rfl) rfl) (by kernel_rfl) (by decide) h ?_
  clear h
  intro a w h
  refine env_one (i := 1) (d := 17) (k := .val (.bool true)) (step_rvalid (by kernel_rfl) (Opd.of_base 16 rfl) hv rfl) (by kernel_rfl) (by decide) h ?_
  clear h
  intro a w h
  refine env_one (i := 2) (d := 18) (k := .val (.bool false)) (step_not (by kernel_rfl) (Opd.of_base 17 rfl) rfl) (by kernel_rfl) (by decide) h ?_
  clear h
  intro a w h
  refine env_one (i := 3) (d := 19) (k := .val (.bool false)) (step_move (by kernel_rfl) (Opd.of_base 18 rfl) rfl) (by kernel_rfl) (by decide) h ?_
  clear h
  intro a w h
  refine env_guard (i := 4) (d := 20) (g := 3) (dg := 19) (b := false) (k := .row F) (step_move (by kernel_rfl) (Opd.of_base 0 rfl) rfl) (by kernel_rfl) (by decide) (by kernel_rfl) (by decide) rfl h ?_
  clear h
  intro a w h
  refine env_guard (i := 5) (d := 21) (g := 3) (dg := 19) (b := false) (k := .val (.int .i64 ((Tm.len F : Nat) : Int))) (step_len_row (by kernel_rfl) (Opd.of_base 20 rfl) rfl) (by kernel_rfl) (by decide) (by kernel_rfl) (by decide) rfl h ?_
  clear h
  intro a w h
  refine env_guard (i := 6) (d := 22) (g := 3) (dg := 19) (b := false) (k := .val (.bool false)) (step_gt_int (by kernel_rfl) (Opd.of_base 21 rfl) (Opd.const _) hb rfl) (by kernel_rfl) (by decide) (by kernel_rfl) (by decide) rfl h ?_
  clear h
  intro a w h
  refine env_one (i := 7) (d := 23) (k := .val (.bool false)) (step_pick_no (x := .const (.bool true)) (by kernel_rfl) (Opd.of_base 19 rfl) (Opd.of_base 22 rfl) rfl) (by kernel_rfl) (by decide) h ?_
  clear h
  intro a w h
  exact hQ a w (h.keep [0, 3, 5, 23])
theorem li4_region {Q : Exit → Act → World → Prop} (F : Fo) (p : Pay) (l : Fo) (hv : Tm.validB p l = true) {w0 : World} {a : Act} {w : World} (h : Hold 105 [(0, .row F), (3, .ptrT p l), (5, .ptrT (Tm.listFn F p l).1 (Tm.listFn F p l).2)] w0 a w)
    (hQ : ∀ a' w', Hold 105 [(0, .row F), (3, .ptrT p l), (5, .ptrT (Tm.listFn F p l).1 (Tm.listFn F p l).2), (6, .val (.int .i64 ((Tm.listSz F l 0 : Nat) : Int)))] w0 a' w' → Q .normal a' w') : (Code.region 4 li4Ops false).wp Try.prog Q a w := by
  refine region_seq (w0 := w) 3 (by kernel_rfl) ?_
  rw [show List.range 3 = [0, 1, 2] from rfl]
  refine env_one (i := 0) (d := 25) (k := .term p l) (step_load_term (by kernel_rfl) (Opd.of_base 3 rfl) rfl) (by kernel_rfl) (by decide) h ?_
  clear h
  intro a w h
  refine env_one (i := 1) (d := 26) (k := .val (.int .i64 ((Tm.listSz F l 0 : Nat) : Int))) (step_rsize (by kernel_rfl) (Opd.of_base 25 rfl) (by rw [Tm.listSz_zero]; have := (Tm.valid_parts hv).1; unfold Tm.sizeB; omega) rfl) (by kernel_rfl) (by decide) h ?_
  clear h
  intro a w h
  refine env_one (i := 2) (d := 6) (k := .val (.int .i64 ((Tm.listSz F l 0 : Nat) : Int))) (step_assign (by kernel_rfl) (Opd.of_base 26 rfl) rfl) (by kernel_rfl) (by decide) h ?_
  clear h
  intro a w h
  exact hQ a w (h.keep [0, 3, 5, 6])
theorem li5_region {Q : Exit → Act → World → Prop} (F : Fo) (p : Pay) (l : Fo)  {w0 : World} {a : Act} {w : World} (h : Hold 105 [(0, .row F), (3, .ptrT p l), (5, .ptrT (Tm.listFn F p l).1 (Tm.listFn F p l).2), (6, .val (.int .i64 ((Tm.listSz F l 0 : Nat) : Int)))] w0 a w)
    (hQ : ∀ a' w', Hold 105 [(0, .row F), (3, .ptrT p l), (5, .ptrT (Tm.listFn F p l).1 (Tm.listFn F p l).2), (6, .val (.int .i64 ((Tm.listSz F l 0 : Nat) : Int))), (7, .val (.int .i64 0))] w0 a' w' → Q .normal a' w') : (Code.region 5 li5Ops false).wp Try.prog Q a w := by
  refine region_seq (w0 := w) 1 (by kernel_rfl) ?_
  rw [show List.range 1 = [0] from rfl]
  refine env_one (i := 0) (d := 7) (k := .val (.int .i64 0)) (step_assign (by kernel_rfl) (Opd.const _) rfl) (by kernel_rfl) (by decide) h ?_
  clear h
  intro a w h
  exact hQ a w (h.keep [0, 3, 5, 6, 7])
theorem li6t_region {Q : Exit → Act → World → Prop} (F : Fo) (p : Pay) (l : Fo) (k : Nat) (hb : decide (((k : Nat) : Int) < ((Tm.len F : Nat) : Int)) = true) {w0 : World} {a : Act} {w : World} (h : Hold 105 [(0, .row F), (3, .ptrT p l), (5, .ptrT (Tm.listFn F p l).1 (Tm.listFn F p l).2), (6, .val (.int .i64 ((Tm.listSz F l k : Nat) : Int))), (7, .val (.int .i64 ((k : Nat) : Int)))] w0 a w)
    (hQ : ∀ a' w', Hold 105 [(0, .row F), (3, .ptrT p l), (5, .ptrT (Tm.listFn F p l).1 (Tm.listFn F p l).2), (6, .val (.int .i64 ((Tm.listSz F l k : Nat) : Int))), (7, .val (.int .i64 ((k : Nat) : Int))), (30, .val (.bool true))] w0 a' w' → Q .normal a' w') : (Code.region 6 li6Ops false).wp Try.prog Q a w := by
  refine region_seq (w0 := w) 4 (by kernel_rfl) ?_
  rw [show List.range 4 = [0, 1, 2, 3] from rfl]
  refine env_one (i := 0) (d := 27) (k := .val (.int .i64 ((k : Nat) : Int))) (step_move (by kernel_rfl) (Opd.of_base 7 rfl) rfl) (by kernel_rfl) (by decide) h ?_
  clear h
  intro a w h
  refine env_one (i := 1) (d := 28) (k := .row F) (step_move (by kernel_rfl) (Opd.of_base 0 rfl) rfl) (by kernel_rfl) (by decide) h ?_
  clear h
  intro a w h
  refine env_one (i := 2) (d := 29) (k := .val (.int .i64 ((Tm.len F : Nat) : Int))) (step_len_row (by kernel_rfl) (Opd.of_base 28 rfl) rfl) (by kernel_rfl) (by decide) h ?_
  clear h
  intro a w h
  refine env_one (i := 3) (d := 30) (k := .val (.bool true)) (step_lt_int (by kernel_rfl) (Opd.of_base 27 rfl) (Opd.of_base 29 rfl) hb rfl) (by kernel_rfl) (by decide) h ?_
  clear h
  intro a w h
  exact hQ a w (h.keep [0, 3, 5, 6, 7, 30])
theorem li6f_region {Q : Exit → Act → World → Prop} (F : Fo) (p : Pay) (l : Fo) (k : Nat) (hb : decide (((k : Nat) : Int) < ((Tm.len F : Nat) : Int)) = false) {w0 : World} {a : Act} {w : World} (h : Hold 105 [(0, .row F), (3, .ptrT p l), (5, .ptrT (Tm.listFn F p l).1 (Tm.listFn F p l).2), (6, .val (.int .i64 ((Tm.listSz F l k : Nat) : Int))), (7, .val (.int .i64 ((k : Nat) : Int)))] w0 a w)
    (hQ : ∀ a' w', Hold 105 [(0, .row F), (3, .ptrT p l), (5, .ptrT (Tm.listFn F p l).1 (Tm.listFn F p l).2), (6, .val (.int .i64 ((Tm.listSz F l k : Nat) : Int))), (7, .val (.int .i64 ((k : Nat) : Int))), (30, .val (.bool false))] w0 a' w' → Q .normal a' w') : (Code.region 6 li6Ops false).wp Try.prog Q a w := by
  refine region_seq (w0 := w) 4 (by kernel_rfl) ?_
  rw [show List.range 4 = [0, 1, 2, 3] from rfl]
  refine env_one (i := 0) (d := 27) (k := .val (.int .i64 ((k : Nat) : Int))) (step_move (by kernel_rfl) (Opd.of_base 7 rfl) rfl) (by kernel_rfl) (by decide) h ?_
  clear h
  intro a w h
  refine env_one (i := 1) (d := 28) (k := .row F) (step_move (by kernel_rfl) (Opd.of_base 0 rfl) rfl) (by kernel_rfl) (by decide) h ?_
  clear h
  intro a w h
  refine env_one (i := 2) (d := 29) (k := .val (.int .i64 ((Tm.len F : Nat) : Int))) (step_len_row (by kernel_rfl) (Opd.of_base 28 rfl) rfl) (by kernel_rfl) (by decide) h ?_
  clear h
  intro a w h
  refine env_one (i := 3) (d := 30) (k := .val (.bool false)) (step_lt_int (by kernel_rfl) (Opd.of_base 27 rfl) (Opd.of_base 29 rfl) hb rfl) (by kernel_rfl) (by decide) h ?_
  clear h
  intro a w h
  exact hQ a w (h.keep [0, 3, 5, 6, 7, 30])
theorem li8t_region {Q : Exit → Act → World → Prop} (F : Fo) (p : Pay) (l : Fo) (k : Nat) (q : Pay) (m r : Fo) (hd : Tm.dropF F k = .node q m r) (hm : Tm.validB q m = true) {w0 : World} {a : Act} {w : World} (h : Hold 105 [(0, .row F), (3, .ptrT p l), (5, .ptrT (Tm.listFn F p l).1 (Tm.listFn F p l).2), (6, .val (.int .i64 ((Tm.listSz F l k : Nat) : Int))), (7, .val (.int .i64 ((k : Nat) : Int)))] w0 a w)
    (hQ : ∀ a' w', Hold 105 [(0, .row F), (3, .ptrT p l), (5, .ptrT (Tm.listFn F p l).1 (Tm.listFn F p l).2), (6, .val (.int .i64 ((Tm.listSz F l k : Nat) : Int))), (7, .val (.int .i64 ((k : Nat) : Int))), (38, .val (.bool false))] w0 a' w' → Q .normal a' w') : (Code.region 8 li8Ops false).wp Try.prog Q a w := by
  refine region_seq (w0 := w) 6 (by kernel_rfl) ?_
  rw [show List.range 6 = [0, 1, 2, 3, 4, 5] from rfl]
  refine env_one (i := 0) (d := 33) (k := .row F) (step_move (by kernel_rfl) (Opd.of_base 0 rfl) rfl) (by kernel_rfl) (by decide) h ?_
  clear h
  intro a w h
  refine env_one (i := 1) (d := 34) (k := .val (.int .i64 ((k : Nat) : Int))) (step_move (by kernel_rfl) (Opd.of_base 7 rfl) rfl) (by kernel_rfl) (by decide) h ?_
  clear h
  intro a w h
  refine env_one (i := 2) (d := 35) (k := .ptrT q m) (step_row_at (by kernel_rfl) (Opd.of_base 33 rfl) (Opd.of_base 34 rfl) hd rfl) (by kernel_rfl) (by decide) h ?_
  clear h
  intro a w h
  refine env_one (i := 3) (d := 36) (k := .term q m) (step_load_term (by kernel_rfl) (Opd.of_base 35 rfl) rfl) (by kernel_rfl) (by decide) h ?_
  clear h
  intro a w h
  refine env_one (i := 4) (d := 37) (k := .val (.bool true)) (step_rvalid (by kernel_rfl) (Opd.of_base 36 rfl) hm rfl) (by kernel_rfl) (by decide) h ?_
  clear h
  intro a w h
  refine env_one (i := 5) (d := 38) (k := .val (.bool false)) (step_not (by kernel_rfl) (Opd.of_base 37 rfl) rfl) (by kernel_rfl) (by decide) h ?_
  clear h
  intro a w h
  exact hQ a w (h.keep [0, 3, 5, 6, 7, 38])
theorem li8f_region {Q : Exit → Act → World → Prop} (F : Fo) (p : Pay) (l : Fo) (k : Nat) (q : Pay) (m r : Fo) (hd : Tm.dropF F k = .node q m r) (hm : Tm.validB q m = false) {w0 : World} {a : Act} {w : World} (h : Hold 105 [(0, .row F), (3, .ptrT p l), (5, .ptrT (Tm.listFn F p l).1 (Tm.listFn F p l).2), (6, .val (.int .i64 ((Tm.listSz F l k : Nat) : Int))), (7, .val (.int .i64 ((k : Nat) : Int)))] w0 a w)
    (hQ : ∀ a' w', Hold 105 [(0, .row F), (3, .ptrT p l), (5, .ptrT (Tm.listFn F p l).1 (Tm.listFn F p l).2), (6, .val (.int .i64 ((Tm.listSz F l k : Nat) : Int))), (7, .val (.int .i64 ((k : Nat) : Int))), (38, .val (.bool true))] w0 a' w' → Q .normal a' w') : (Code.region 8 li8Ops false).wp Try.prog Q a w := by
  refine region_seq (w0 := w) 6 (by kernel_rfl) ?_
  rw [show List.range 6 = [0, 1, 2, 3, 4, 5] from rfl]
  refine env_one (i := 0) (d := 33) (k := .row F) (step_move (by kernel_rfl) (Opd.of_base 0 rfl) rfl) (by kernel_rfl) (by decide) h ?_
  clear h
  intro a w h
  refine env_one (i := 1) (d := 34) (k := .val (.int .i64 ((k : Nat) : Int))) (step_move (by kernel_rfl) (Opd.of_base 7 rfl) rfl) (by kernel_rfl) (by decide) h ?_
  clear h
  intro a w h
  refine env_one (i := 2) (d := 35) (k := .ptrT q m) (step_row_at (by kernel_rfl) (Opd.of_base 33 rfl) (Opd.of_base 34 rfl) hd rfl) (by kernel_rfl) (by decide) h ?_
  clear h
  intro a w h
  refine env_one (i := 3) (d := 36) (k := .term q m) (step_load_term (by kernel_rfl) (Opd.of_base 35 rfl) rfl) (by kernel_rfl) (by decide) h ?_
  clear h
  intro a w h
  refine env_one (i := 4) (d := 37) (k := .val (.bool false)) (step_rvalid (by kernel_rfl) (Opd.of_base 36 rfl) hm rfl) (by kernel_rfl) (by decide) h ?_
  clear h
  intro a w h
  refine env_one (i := 5) (d := 38) (k := .val (.bool true)) (step_not (by kernel_rfl) (Opd.of_base 37 rfl) rfl) (by kernel_rfl) (by decide) h ?_
  clear h
  intro a w h
  exact hQ a w (h.keep [0, 3, 5, 6, 7, 38])
theorem li9_region {Q : Exit → Act → World → Prop} (F : Fo) (p : Pay) (l : Fo) (k : Nat)  {w0 : World} {a : Act} {w : World} (h : Hold 105 [(0, .row F), (3, .ptrT p l), (5, .ptrT (Tm.listFn F p l).1 (Tm.listFn F p l).2), (6, .val (.int .i64 ((Tm.listSz F l k : Nat) : Int))), (7, .val (.int .i64 ((k : Nat) : Int)))] w0 a w)
    (hQ : ∀ a' w', Hold 105 [(4, .val (.bool true))] w0 a' w' → Q .normal a' w') : (Code.region 9 li9Ops false).wp Try.prog Q a w := by
  refine region_seq (w0 := w) 2 (by kernel_rfl) ?_
  rw [show List.range 2 = [0, 1] from rfl]
  refine env_one (i := 0) (d := 39) (k := .val (.bool true)) (step_awake (by kernel_rfl) rfl) (by kernel_rfl) (by decide) h ?_
  clear h
  intro a w h
  refine env_one (i := 1) (d := 4) (k := .val (.bool true)) (step_assign (by kernel_rfl) (Opd.of_base 39 rfl) rfl) (by kernel_rfl) (by decide) h ?_
  clear h
  intro a w h
  exact hQ a w (h.keep [4])
theorem li10_region {Q : Exit → Act → World → Prop} (F : Fo) (p : Pay) (l : Fo) (k : Nat) (q : Pay) (m r : Fo) (hd : Tm.dropF F k = .node q m r) (hm : Tm.validB q m = true) (hb : Tm.listSz F l (k + 1) ≤ 10000000) {w0 : World} {a : Act} {w : World} (h : Hold 105 [(0, .row F), (3, .ptrT p l), (5, .ptrT (Tm.listFn F p l).1 (Tm.listFn F p l).2), (6, .val (.int .i64 ((Tm.listSz F l k : Nat) : Int))), (7, .val (.int .i64 ((k : Nat) : Int)))] w0 a w)
    (hQ : ∀ a' w', Hold 105 [(0, .row F), (3, .ptrT p l), (5, .ptrT (Tm.listFn F p l).1 (Tm.listFn F p l).2), (6, .val (.int .i64 ((Tm.listSz F l (k + 1) : Nat) : Int))), (7, .val (.int .i64 ((k : Nat) : Int)))] w0 a' w' → Q .normal a' w') : (Code.region 10 li10Ops false).wp Try.prog Q a w := by
  refine region_seq (w0 := w) 9 (by kernel_rfl) ?_
  rw [show List.range 9 = [0, 1, 2, 3, 4, 5, 6, 7, 8] from rfl]
  refine env_one (i := 0) (d := 40) (k := .val (.int .i64 ((Tm.listSz F l k : Nat) : Int))) (step_move (by kernel_rfl) (Opd.of_base 6 rfl) rfl) (by kernel_rfl) (by decide) h ?_
  clear h
  intro a w h
  refine env_one (i := 1) (d := 41) (k := .val (.int .i64 ((Tm.listSz F l k + 1 : Nat) : Int))) (step_add (by kernel_rfl) (Opd.of_base 40 rfl) (Opd.const _) (by have := Tm.listSz_succ F l hd; rw [show ((Tm.listSz F l k : Nat) : Int) + 1 = ((Tm.listSz F l k + 1 : Nat) : Int) by omega]; exact IntWalk.i64_in _ (by omega)) rfl) (by kernel_rfl) (by decide) h ?_
  clear h
  intro a w h
  refine env_one (i := 2) (d := 42) (k := .row F) (step_move (by kernel_rfl) (Opd.of_base 0 rfl) rfl) (by kernel_rfl) (by decide) h ?_
  clear h
  intro a w h
  refine env_one (i := 3) (d := 43) (k := .val (.int .i64 ((k : Nat) : Int))) (step_move (by kernel_rfl) (Opd.of_base 7 rfl) rfl) (by kernel_rfl) (by decide) h ?_
  clear h
  intro a w h
  refine env_one (i := 4) (d := 44) (k := .ptrT q m) (step_row_at (by kernel_rfl) (Opd.of_base 42 rfl) (Opd.of_base 43 rfl) hd rfl) (by kernel_rfl) (by decide) h ?_
  clear h
  intro a w h
  refine env_one (i := 5) (d := 45) (k := .term q m) (step_load_term (by kernel_rfl) (Opd.of_base 44 rfl) rfl) (by kernel_rfl) (by decide) h ?_
  clear h
  intro a w h
  refine env_one (i := 6) (d := 46) (k := .val (.int .i64 ((1 + Tm.size m : Nat) : Int))) (step_rsize (by kernel_rfl) (Opd.of_base 45 rfl) (by have := (Tm.valid_parts hm).1; unfold Tm.sizeB; omega) rfl) (by kernel_rfl) (by decide) h ?_
  clear h
  intro a w h
  refine env_one (i := 7) (d := 47) (k := .val (.int .i64 ((Tm.listSz F l (k + 1) : Nat) : Int))) (step_add (by kernel_rfl) (Opd.of_base 41 rfl) (Opd.of_base 46 rfl) (by have := Tm.listSz_succ F l hd; rw [show ((Tm.listSz F l k + 1 : Nat) : Int) + ((1 + Tm.size m : Nat) : Int) = ((Tm.listSz F l (k + 1) : Nat) : Int) by omega]; exact IntWalk.i64_in _ (by omega)) rfl) (by kernel_rfl) (by decide) h ?_
  clear h
  intro a w h
  refine env_one (i := 8) (d := 6) (k := .val (.int .i64 ((Tm.listSz F l (k + 1) : Nat) : Int))) (step_assign (by kernel_rfl) (Opd.of_base 47 rfl) rfl) (by kernel_rfl) (by decide) h ?_
  clear h
  intro a w h
  exact hQ a w (h.keep [0, 3, 5, 6, 7])
theorem li7_region {Q : Exit → Act → World → Prop} (F : Fo) (p : Pay) (l : Fo) (k : Nat) (hk : k ≤ 5000) {w0 : World} {a : Act} {w : World} (h : Hold 105 [(0, .row F), (3, .ptrT p l), (5, .ptrT (Tm.listFn F p l).1 (Tm.listFn F p l).2), (6, .val (.int .i64 ((Tm.listSz F l (k + 1) : Nat) : Int))), (7, .val (.int .i64 ((k : Nat) : Int)))] w0 a w)
    (hQ : ∀ a' w', Hold 105 [(0, .row F), (3, .ptrT p l), (5, .ptrT (Tm.listFn F p l).1 (Tm.listFn F p l).2), (6, .val (.int .i64 ((Tm.listSz F l (k + 1) : Nat) : Int))), (7, .val (.int .i64 ((k + 1 : Nat) : Int)))] w0 a' w' → Q .normal a' w') : (Code.region 7 li7Ops false).wp Try.prog Q a w := by
  refine region_seq (w0 := w) 3 (by kernel_rfl) ?_
  rw [show List.range 3 = [0, 1, 2] from rfl]
  refine env_one (i := 0) (d := 31) (k := .val (.int .i64 ((k : Nat) : Int))) (step_move (by kernel_rfl) (Opd.of_base 7 rfl) rfl) (by kernel_rfl) (by decide) h ?_
  clear h
  intro a w h
  refine env_one (i := 1) (d := 32) (k := .val (.int .i64 ((k + 1 : Nat) : Int))) (step_add (by kernel_rfl) (Opd.of_base 31 rfl) (Opd.const _) (by rw [show ((k : Nat) : Int) + 1 = ((k + 1 : Nat) : Int) by omega]; exact IntWalk.i64_in _ (by omega)) rfl) (by kernel_rfl) (by decide) h ?_
  clear h
  intro a w h
  refine env_one (i := 2) (d := 7) (k := .val (.int .i64 ((k + 1 : Nat) : Int))) (step_assign (by kernel_rfl) (Opd.of_base 32 rfl) rfl) (by kernel_rfl) (by decide) h ?_
  clear h
  intro a w h
  exact hQ a w (h.keep [0, 3, 5, 6, 7])
theorem li11t_region {Q : Exit → Act → World → Prop} (F : Fo) (p : Pay) (l : Fo) (hb : decide ((2000 : Int) < ((Tm.listSz F l (Tm.len F) : Nat) : Int)) = true) {w0 : World} {a : Act} {w : World} (h : Hold 105 [(0, .row F), (3, .ptrT p l), (5, .ptrT (Tm.listFn F p l).1 (Tm.listFn F p l).2), (6, .val (.int .i64 ((Tm.listSz F l (Tm.len F) : Nat) : Int)))] w0 a w)
    (hQ : ∀ a' w', Hold 105 [(0, .row F), (3, .ptrT p l), (5, .ptrT (Tm.listFn F p l).1 (Tm.listFn F p l).2), (6, .val (.int .i64 ((Tm.listSz F l (Tm.len F) : Nat) : Int))), (49, .val (.bool true))] w0 a' w' → Q .normal a' w') : (Code.region 11 li11Ops false).wp Try.prog Q a w := by
  refine region_seq (w0 := w) 2 (by kernel_rfl) ?_
  rw [show List.range 2 = [0, 1] from rfl]
  refine env_one (i := 0) (d := 48) (k := .val (.int .i64 ((Tm.listSz F l (Tm.len F) : Nat) : Int))) (step_move (by kernel_rfl) (Opd.of_base 6 rfl) rfl) (by kernel_rfl) (by decide) h ?_
  clear h
  intro a w h
  refine env_one (i := 1) (d := 49) (k := .val (.bool true)) (step_gt_int (by kernel_rfl) (Opd.of_base 48 rfl) (Opd.const _) hb rfl) (by kernel_rfl) (by decide) h ?_
  clear h
  intro a w h
  exact hQ a w (h.keep [0, 3, 5, 6, 49])
theorem li11f_region {Q : Exit → Act → World → Prop} (F : Fo) (p : Pay) (l : Fo) (hb : decide ((2000 : Int) < ((Tm.listSz F l (Tm.len F) : Nat) : Int)) = false) {w0 : World} {a : Act} {w : World} (h : Hold 105 [(0, .row F), (3, .ptrT p l), (5, .ptrT (Tm.listFn F p l).1 (Tm.listFn F p l).2), (6, .val (.int .i64 ((Tm.listSz F l (Tm.len F) : Nat) : Int)))] w0 a w)
    (hQ : ∀ a' w', Hold 105 [(0, .row F), (3, .ptrT p l), (5, .ptrT (Tm.listFn F p l).1 (Tm.listFn F p l).2), (6, .val (.int .i64 ((Tm.listSz F l (Tm.len F) : Nat) : Int))), (49, .val (.bool false))] w0 a' w' → Q .normal a' w') : (Code.region 11 li11Ops false).wp Try.prog Q a w := by
  refine region_seq (w0 := w) 2 (by kernel_rfl) ?_
  rw [show List.range 2 = [0, 1] from rfl]
  refine env_one (i := 0) (d := 48) (k := .val (.int .i64 ((Tm.listSz F l (Tm.len F) : Nat) : Int))) (step_move (by kernel_rfl) (Opd.of_base 6 rfl) rfl) (by kernel_rfl) (by decide) h ?_
  clear h
  intro a w h
  refine env_one (i := 1) (d := 49) (k := .val (.bool false)) (step_gt_int (by kernel_rfl) (Opd.of_base 48 rfl) (Opd.const _) hb rfl) (by kernel_rfl) (by decide) h ?_
  clear h
  intro a w h
  exact hQ a w (h.keep [0, 3, 5, 6, 49])
theorem li12_region {Q : Exit → Act → World → Prop} (F : Fo) (p : Pay) (l : Fo)  {w0 : World} {a : Act} {w : World} (h : Hold 105 [(0, .row F)] w0 a w)
    (hQ : ∀ a' w', Hold 105 [(4, .val (.bool true))] w0 a' w' → Q .normal a' w') : (Code.region 12 li12Ops false).wp Try.prog Q a w := by
  refine region_seq (w0 := w) 2 (by kernel_rfl) ?_
  rw [show List.range 2 = [0, 1] from rfl]
  refine env_one (i := 0) (d := 50) (k := .val (.bool true)) (step_awake (by kernel_rfl) rfl) (by kernel_rfl) (by decide) h ?_
  clear h
  intro a w h
  refine env_one (i := 1) (d := 4) (k := .val (.bool true)) (step_assign (by kernel_rfl) (Opd.of_base 50 rfl) rfl) (by kernel_rfl) (by decide) h ?_
  clear h
  intro a w h
  exact hQ a w (h.keep [4])
theorem li13_region {Q : Exit → Act → World → Prop} (F : Fo) (p : Pay) (l : Fo) (H : Tm.Listed F p l) {w0 : World} {a : Act} {w : World} (h : Hold 105 [(0, .row F), (3, .ptrT p l), (5, .ptrT (Tm.listFn F p l).1 (Tm.listFn F p l).2), (6, .val (.int .i64 ((Tm.listSz F l (Tm.len F) : Nat) : Int)))] w0 a w)
    (hQ : ∀ a' w', Hold 105 [(0, .row F), (3, .ptrT p l), (5, .ptrT (Tm.listFn F p l).1 (Tm.listFn F p l).2), (6, .val (.int .i64 ((Tm.listSz F l (Tm.len F) : Nat) : Int))), (8, .row (Tm.app F (Tm.elemsOf p l).1)), (9, .ptrT (Tm.elemsOf p l).2.1 (Tm.elemsOf p l).2.2)] w0 a' w' → Q .normal a' w') : (Code.region 13 li13Ops false).wp Try.prog Q a w := by
  refine region_seq (w0 := w) 8 (by kernel_rfl) ?_
  rw [show List.range 8 = [0, 1, 2, 3, 4, 5, 6, 7] from rfl]
  refine env_one (i := 0) (d := 52) (k := .term (Tm.listFn F p l).1 (Tm.listFn F p l).2) (step_load_term (by kernel_rfl) (Opd.of_base 5 rfl) rfl) (by kernel_rfl) (by decide) h ?_
  clear h
  intro a w h
  refine env_one (i := 1) (d := 53) (k := .rowPair (Tm.app F (Tm.elemsOf p l).1) (Tm.elemsOf p l).2.1 (Tm.elemsOf p l).2.2) (step_elems (by kernel_rfl) (Opd.of_base 52 rfl) H.elems rfl) (by kernel_rfl) (by decide) h ?_
  clear h
  intro a w h
  refine env_one (i := 2) (d := 51) (k := .rowPair (Tm.app F (Tm.elemsOf p l).1) (Tm.elemsOf p l).2.1 (Tm.elemsOf p l).2.2) (step_move (by kernel_rfl) (Opd.of_base 53 rfl) rfl) (by kernel_rfl) (by decide) h ?_
  clear h
  intro a w h
  refine env_one (i := 3) (d := 54) (k := .row (Tm.app F (Tm.elemsOf p l).1)) (step_rowPair0 (by kernel_rfl) (Opd.of_base 51 rfl) rfl) (by kernel_rfl) (by decide) h ?_
  clear h
  intro a w h
  refine env_one (i := 4) (d := 55) (k := .term (Tm.elemsOf p l).2.1 (Tm.elemsOf p l).2.2) (step_rowPair1 (by kernel_rfl) (Opd.of_base 51 rfl) rfl) (by kernel_rfl) (by decide) h ?_
  clear h
  intro a w h
  refine env_box3 (i := 5) (d := 9) (e := 8) (by kernel_rfl) (by decide) (by kernel_rfl) (by decide) (x := 54) rfl (by decide) (by decide) (by kernel_rfl) (by decide) (by decide) (s := 55) rfl h ?_
  clear h
  intro a w h
  exact hQ a w (h.keep [0, 3, 5, 6, 8, 9])
theorem li14_region {Q : Exit → Act → World → Prop} (F : Fo) (p : Pay) (l : Fo) (H : Tm.Listed F p l) {w0 : World} {a : Act} {w : World} (h : Hold 105 [(0, .row F), (3, .ptrT p l), (5, .ptrT (Tm.listFn F p l).1 (Tm.listFn F p l).2), (6, .val (.int .i64 ((Tm.listSz F l (Tm.len F) : Nat) : Int))), (8, .row (Tm.app F (Tm.elemsOf p l).1)), (9, .ptrT (Tm.elemsOf p l).2.1 (Tm.elemsOf p l).2.2)] w0 a w)
    (hQ : ∀ a' w', Hold 105 [(0, .row F), (5, .ptrT (Tm.listFn F p l).1 (Tm.listFn F p l).2), (6, .val (.int .i64 ((Tm.listSz F l (Tm.len F) : Nat) : Int))), (8, .row (Tm.app F (Tm.elemsOf p l).1)), (9, .ptrT (Tm.elemsOf p l).2.1 (Tm.elemsOf p l).2.2), (10, .row (Tm.elemsOf p l).1), (11, .ptrT (Tm.elemsOf p l).2.1 (Tm.elemsOf p l).2.2)] w0 a' w' → Q .normal a' w') : (Code.region 14 li14Ops false).wp Try.prog Q a w := by
  refine region_seq (w0 := w) 8 (by kernel_rfl) ?_
  rw [show List.range 8 = [0, 1, 2, 3, 4, 5, 6, 7] from rfl]
  refine env_one (i := 0) (d := 57) (k := .term p l) (step_load_term (by kernel_rfl) (Opd.of_base 3 rfl) rfl) (by kernel_rfl) (by decide) h ?_
  clear h
  intro a w h
  refine env_one (i := 1) (d := 58) (k := .rowPair (Tm.elemsOf p l).1 (Tm.elemsOf p l).2.1 (Tm.elemsOf p l).2.2) (step_elems (by kernel_rfl) (Opd.of_base 57 rfl) H.tail rfl) (by kernel_rfl) (by decide) h ?_
  clear h
  intro a w h
  refine env_one (i := 2) (d := 56) (k := .rowPair (Tm.elemsOf p l).1 (Tm.elemsOf p l).2.1 (Tm.elemsOf p l).2.2) (step_move (by kernel_rfl) (Opd.of_base 58 rfl) rfl) (by kernel_rfl) (by decide) h ?_
  clear h
  intro a w h
  refine env_one (i := 3) (d := 59) (k := .row (Tm.elemsOf p l).1) (step_rowPair0 (by kernel_rfl) (Opd.of_base 56 rfl) rfl) (by kernel_rfl) (by decide) h ?_
  clear h
  intro a w h
  refine env_one (i := 4) (d := 60) (k := .term (Tm.elemsOf p l).2.1 (Tm.elemsOf p l).2.2) (step_rowPair1 (by kernel_rfl) (Opd.of_base 56 rfl) rfl) (by kernel_rfl) (by decide) h ?_
  clear h
  intro a w h
  refine env_box3 (i := 5) (d := 11) (e := 10) (by kernel_rfl) (by decide) (by kernel_rfl) (by decide) (x := 59) rfl (by decide) (by decide) (by kernel_rfl) (by decide) (by decide) (s := 60) rfl h ?_
  clear h
  intro a w h
  exact hQ a w (h.keep [0, 5, 6, 8, 9, 10, 11])
theorem li15_region {Q : Exit → Act → World → Prop} (F : Fo) (p : Pay) (l : Fo) (H : Tm.Listed F p l) {w0 : World} {a : Act} {w : World} (h : Hold 105 [(0, .row F), (5, .ptrT (Tm.listFn F p l).1 (Tm.listFn F p l).2), (6, .val (.int .i64 ((Tm.listSz F l (Tm.len F) : Nat) : Int))), (8, .row (Tm.app F (Tm.elemsOf p l).1)), (9, .ptrT (Tm.elemsOf p l).2.1 (Tm.elemsOf p l).2.2), (10, .row (Tm.elemsOf p l).1), (11, .ptrT (Tm.elemsOf p l).2.1 (Tm.elemsOf p l).2.2)] w0 a w)
    (hQ : ∀ a' w', Hold 105 [(0, .row F), (5, .ptrT (Tm.listFn F p l).1 (Tm.listFn F p l).2), (8, .row (Tm.app F (Tm.elemsOf p l).1)), (9, .ptrT (Tm.elemsOf p l).2.1 (Tm.elemsOf p l).2.2), (80, .val (.bool false))] w0 a' w' → Q .normal a' w') : (Code.region 15 li15Ops false).wp Try.prog Q a w := by
  refine region_seq (w0 := w) 20 (by kernel_rfl) ?_
  rw [show List.range 20 = [0, 1, 2, 3, 4, 5, 6, 7, 8, 9, 10, 11, 12, 13, 14, 15, 16, 17, 18, 19] from rfl]
  refine env_one (i := 0) (d := 61) (k := .row (Tm.app F (Tm.elemsOf p l).1)) (step_move (by kernel_rfl) (Opd.of_base 8 rfl) rfl) (by kernel_rfl) (by decide) h ?_
  clear h
  intro a w h
  refine env_one (i := 1) (d := 62) (k := .val (.int .i64 ((Tm.len (Tm.app F (Tm.elemsOf p l).1) : Nat) : Int))) (step_len_row (by kernel_rfl) (Opd.of_base 61 rfl) rfl) (by kernel_rfl) (by decide) h ?_
  clear h
  intro a w h
  refine env_one (i := 2) (d := 63) (k := .row F) (step_move (by kernel_rfl) (Opd.of_base 0 rfl) rfl) (by kernel_rfl) (by decide) h ?_
  clear h
  intro a w h
  refine env_one (i := 3) (d := 64) (k := .val (.int .i64 ((Tm.len F : Nat) : Int))) (step_len_row (by kernel_rfl) (Opd.of_base 63 rfl) rfl) (by kernel_rfl) (by decide) h ?_
  clear h
  intro a w h
  refine env_one (i := 4) (d := 65) (k := .row (Tm.elemsOf p l).1) (step_move (by kernel_rfl) (Opd.of_base 10 rfl) rfl) (by kernel_rfl) (by decide) h ?_
  clear h
  intro a w h
  refine env_one (i := 5) (d := 66) (k := .val (.int .i64 ((Tm.len (Tm.elemsOf p l).1 : Nat) : Int))) (step_len_row (by kernel_rfl) (Opd.of_base 65 rfl) rfl) (by kernel_rfl) (by decide) h ?_
  clear h
  intro a w h
  refine env_one (i := 6) (d := 67) (k := .val (.int .i64 ((Tm.len (Tm.app F (Tm.elemsOf p l).1) : Nat) : Int))) (step_add (by kernel_rfl) (Opd.of_base 64 rfl) (Opd.of_base 66 rfl) (by have h1 := Tm.len_app F (Tm.elemsOf p l).1; have h2 := H.lens; rw [show ((Tm.len F : Nat) : Int) + ((Tm.len (Tm.elemsOf p l).1 : Nat) : Int) = ((Tm.len (Tm.app F (Tm.elemsOf p l).1) : Nat) : Int) by omega]; exact IntWalk.i64_in _ (by omega)) rfl) (by kernel_rfl) (by decide) h ?_
  clear h
  intro a w h
  refine env_one (i := 7) (d := 68) (k := .val (.bool false)) (step_ne_int (by kernel_rfl) (Opd.of_base 62 rfl) (Opd.of_base 67 rfl) (by simp) rfl) (by kernel_rfl) (by decide) h ?_
  clear h
  intro a w h
  refine env_one (i := 8) (d := 69) (k := .val (.bool false)) (step_move (by kernel_rfl) (Opd.of_base 68 rfl) rfl) (by kernel_rfl) (by decide) h ?_
  clear h
  intro a w h
  refine env_guard (i := 9) (d := 70) (g := 8) (dg := 69) (b := false) (k := .term (Tm.elemsOf p l).2.1 (Tm.elemsOf p l).2.2) (step_load_term (by kernel_rfl) (Opd.of_base 9 rfl) rfl) (by kernel_rfl) (by decide) (by kernel_rfl) (by decide) rfl h ?_
  clear h
  intro a w h
  refine env_guard (i := 10) (d := 71) (g := 8) (dg := 69) (b := false) (k := .term (Tm.elemsOf p l).2.1 (Tm.elemsOf p l).2.2) (step_load_term (by kernel_rfl) (Opd.of_base 11 rfl) rfl) (by kernel_rfl) (by decide) (by kernel_rfl) (by decide) rfl h ?_
  clear h
  intro a w h
  refine env_guard (i := 11) (d := 72) (g := 8) (dg := 69) (b := false) (k := .val (.bool true)) (step_same (by kernel_rfl) (Opd.of_base 70 rfl) (Opd.of_base 71 rfl) (Tm.same_self H.vt) rfl) (by kernel_rfl) (by decide) (by kernel_rfl) (by decide) rfl h ?_
  clear h
  intro a w h
  refine env_guard (i := 12) (d := 73) (g := 8) (dg := 69) (b := false) (k := .val (.bool false)) (step_not (by kernel_rfl) (Opd.of_base 72 rfl) rfl) (by kernel_rfl) (by decide) (by kernel_rfl) (by decide) rfl h ?_
  clear h
  intro a w h
  refine env_one (i := 13) (d := 74) (k := .val (.bool false)) (step_pick_no (x := .const (.bool true)) (by kernel_rfl) (Opd.of_base 69 rfl) (Opd.of_base 73 rfl) rfl) (by kernel_rfl) (by decide) h ?_
  clear h
  intro a w h
  refine env_one (i := 14) (d := 75) (k := .val (.bool false)) (step_move (by kernel_rfl) (Opd.of_base 74 rfl) rfl) (by kernel_rfl) (by decide) h ?_
  clear h
  intro a w h
  refine env_guard (i := 15) (d := 76) (g := 14) (dg := 75) (b := false) (k := .term (Tm.listFn F p l).1 (Tm.listFn F p l).2) (step_load_term (by kernel_rfl) (Opd.of_base 5 rfl) rfl) (by kernel_rfl) (by decide) (by kernel_rfl) (by decide) rfl h ?_
  clear h
  intro a w h
  refine env_guard (i := 16) (d := 77) (g := 14) (dg := 75) (b := false) (k := .val (.int .i64 ((Tm.listSz F l (Tm.len F) : Nat) : Int))) (step_size (by kernel_rfl) (Opd.of_base 76 rfl) H.size rfl) (by kernel_rfl) (by decide) (by kernel_rfl) (by decide) rfl h ?_
  clear h
  intro a w h
  refine env_guard (i := 17) (d := 78) (g := 14) (dg := 75) (b := false) (k := .val (.int .i64 ((Tm.listSz F l (Tm.len F) : Nat) : Int))) (step_move (by kernel_rfl) (Opd.of_base 6 rfl) rfl) (by kernel_rfl) (by decide) (by kernel_rfl) (by decide) rfl h ?_
  clear h
  intro a w h
  refine env_guard (i := 18) (d := 79) (g := 14) (dg := 75) (b := false) (k := .val (.bool false)) (step_ne_int (by kernel_rfl) (Opd.of_base 77 rfl) (Opd.of_base 78 rfl) (by simp) rfl) (by kernel_rfl) (by decide) (by kernel_rfl) (by decide) rfl h ?_
  clear h
  intro a w h
  refine env_one (i := 19) (d := 80) (k := .val (.bool false)) (step_pick_no (x := .const (.bool true)) (by kernel_rfl) (Opd.of_base 75 rfl) (Opd.of_base 79 rfl) rfl) (by kernel_rfl) (by decide) h ?_
  clear h
  intro a w h
  exact hQ a w (h.keep [0, 5, 8, 9, 80])
theorem li17_region {Q : Exit → Act → World → Prop} (F : Fo) (p : Pay) (l : Fo)  {w0 : World} {a : Act} {w : World} (h : Hold 105 [(0, .row F), (5, .ptrT (Tm.listFn F p l).1 (Tm.listFn F p l).2), (8, .row (Tm.app F (Tm.elemsOf p l).1)), (9, .ptrT (Tm.elemsOf p l).2.1 (Tm.elemsOf p l).2.2)] w0 a w)
    (hQ : ∀ a' w', Hold 105 [(0, .row F), (5, .ptrT (Tm.listFn F p l).1 (Tm.listFn F p l).2), (8, .row (Tm.app F (Tm.elemsOf p l).1)), (9, .ptrT (Tm.elemsOf p l).2.1 (Tm.elemsOf p l).2.2), (12, .val (.int .i64 0))] w0 a' w' → Q .normal a' w') : (Code.region 17 li17Ops false).wp Try.prog Q a w := by
  refine region_seq (w0 := w) 1 (by kernel_rfl) ?_
  rw [show List.range 1 = [0] from rfl]
  refine env_one (i := 0) (d := 12) (k := .val (.int .i64 0)) (step_assign (by kernel_rfl) (Opd.const _) rfl) (by kernel_rfl) (by decide) h ?_
  clear h
  intro a w h
  exact hQ a w (h.keep [0, 5, 8, 9, 12])
theorem li18t_region {Q : Exit → Act → World → Prop} (F : Fo) (p : Pay) (l : Fo) (k : Nat) (hb : decide (((k : Nat) : Int) < ((Tm.len F : Nat) : Int)) = true) {w0 : World} {a : Act} {w : World} (h : Hold 105 [(0, .row F), (5, .ptrT (Tm.listFn F p l).1 (Tm.listFn F p l).2), (8, .row (Tm.app F (Tm.elemsOf p l).1)), (9, .ptrT (Tm.elemsOf p l).2.1 (Tm.elemsOf p l).2.2), (12, .val (.int .i64 ((k : Nat) : Int)))] w0 a w)
    (hQ : ∀ a' w', Hold 105 [(0, .row F), (5, .ptrT (Tm.listFn F p l).1 (Tm.listFn F p l).2), (8, .row (Tm.app F (Tm.elemsOf p l).1)), (9, .ptrT (Tm.elemsOf p l).2.1 (Tm.elemsOf p l).2.2), (12, .val (.int .i64 ((k : Nat) : Int))), (84, .val (.bool true))] w0 a' w' → Q .normal a' w') : (Code.region 18 li18Ops false).wp Try.prog Q a w := by
  refine region_seq (w0 := w) 4 (by kernel_rfl) ?_
  rw [show List.range 4 = [0, 1, 2, 3] from rfl]
  refine env_one (i := 0) (d := 81) (k := .val (.int .i64 ((k : Nat) : Int))) (step_move (by kernel_rfl) (Opd.of_base 12 rfl) rfl) (by kernel_rfl) (by decide) h ?_
  clear h
  intro a w h
  refine env_one (i := 1) (d := 82) (k := .row F) (step_move (by kernel_rfl) (Opd.of_base 0 rfl) rfl) (by kernel_rfl) (by decide) h ?_
  clear h
  intro a w h
  refine env_one (i := 2) (d := 83) (k := .val (.int .i64 ((Tm.len F : Nat) : Int))) (step_len_row (by kernel_rfl) (Opd.of_base 82 rfl) rfl) (by kernel_rfl) (by decide) h ?_
  clear h
  intro a w h
  refine env_one (i := 3) (d := 84) (k := .val (.bool true)) (step_lt_int (by kernel_rfl) (Opd.of_base 81 rfl) (Opd.of_base 83 rfl) hb rfl) (by kernel_rfl) (by decide) h ?_
  clear h
  intro a w h
  exact hQ a w (h.keep [0, 5, 8, 9, 12, 84])
theorem li18f_region {Q : Exit → Act → World → Prop} (F : Fo) (p : Pay) (l : Fo) (k : Nat) (hb : decide (((k : Nat) : Int) < ((Tm.len F : Nat) : Int)) = false) {w0 : World} {a : Act} {w : World} (h : Hold 105 [(0, .row F), (5, .ptrT (Tm.listFn F p l).1 (Tm.listFn F p l).2), (8, .row (Tm.app F (Tm.elemsOf p l).1)), (9, .ptrT (Tm.elemsOf p l).2.1 (Tm.elemsOf p l).2.2), (12, .val (.int .i64 ((k : Nat) : Int)))] w0 a w)
    (hQ : ∀ a' w', Hold 105 [(0, .row F), (5, .ptrT (Tm.listFn F p l).1 (Tm.listFn F p l).2), (8, .row (Tm.app F (Tm.elemsOf p l).1)), (9, .ptrT (Tm.elemsOf p l).2.1 (Tm.elemsOf p l).2.2), (12, .val (.int .i64 ((k : Nat) : Int))), (84, .val (.bool false))] w0 a' w' → Q .normal a' w') : (Code.region 18 li18Ops false).wp Try.prog Q a w := by
  refine region_seq (w0 := w) 4 (by kernel_rfl) ?_
  rw [show List.range 4 = [0, 1, 2, 3] from rfl]
  refine env_one (i := 0) (d := 81) (k := .val (.int .i64 ((k : Nat) : Int))) (step_move (by kernel_rfl) (Opd.of_base 12 rfl) rfl) (by kernel_rfl) (by decide) h ?_
  clear h
  intro a w h
  refine env_one (i := 1) (d := 82) (k := .row F) (step_move (by kernel_rfl) (Opd.of_base 0 rfl) rfl) (by kernel_rfl) (by decide) h ?_
  clear h
  intro a w h
  refine env_one (i := 2) (d := 83) (k := .val (.int .i64 ((Tm.len F : Nat) : Int))) (step_len_row (by kernel_rfl) (Opd.of_base 82 rfl) rfl) (by kernel_rfl) (by decide) h ?_
  clear h
  intro a w h
  refine env_one (i := 3) (d := 84) (k := .val (.bool false)) (step_lt_int (by kernel_rfl) (Opd.of_base 81 rfl) (Opd.of_base 83 rfl) hb rfl) (by kernel_rfl) (by decide) h ?_
  clear h
  intro a w h
  exact hQ a w (h.keep [0, 5, 8, 9, 12, 84])
def li20Es (F : Fo) (p : Pay) (l : Fo) (k : Nat) (q : Pay) (m r : Fo) : List Kd := [
  .row (Tm.app F (Tm.elemsOf p l).1),
  .val (.int .i64 ((k : Nat) : Int)),
  .ptrT q m,
  .term q m,
  .row F,
  .val (.int .i64 ((k : Nat) : Int)),
  .ptrT q m,
  .term q m,
  .val (.bool true),
  .val (.bool false)]
def li20Ds : List Nat := [87, 88, 89, 90, 91, 92, 93, 94, 95, 96]
def li20Env (F : Fo) (p : Pay) (l : Fo) (k : Nat) (q : Pay) (m r : Fo) : Env := [(0, .row F), (5, .ptrT (Tm.listFn F p l).1 (Tm.listFn F p l).2), (8, .row (Tm.app F (Tm.elemsOf p l).1)), (9, .ptrT (Tm.elemsOf p l).2.1 (Tm.elemsOf p l).2.2), (12, .val (.int .i64 ((k : Nat) : Int)))]
theorem li20_0 {Q : Exit → Act → World → Prop} (F : Fo) (p : Pay) (l : Fo) (k : Nat) (q : Pay) (m r : Fo) (hd : Tm.dropF F k = .node q m r) (hd' : Tm.dropF (Tm.app F (Tm.elemsOf p l).1) k = .node q m (Tm.app r (Tm.elemsOf p l).1)) (hm : Tm.validB q m = true) : RStep li20Ops Q (fun i => ((li20Es F p l k q m r)[i]?).getD .any) (fun i => (li20Ds[i]?).getD (1000 + i)) (look (li20Env F p l k q m r)) 105 0 := fun _ => step_move (by kernel_rfl) (Opd.of_base 8 rfl) rfl
theorem li20_1 {Q : Exit → Act → World → Prop} (F : Fo) (p : Pay) (l : Fo) (k : Nat) (q : Pay) (m r : Fo) (hd : Tm.dropF F k = .node q m r) (hd' : Tm.dropF (Tm.app F (Tm.elemsOf p l).1) k = .node q m (Tm.app r (Tm.elemsOf p l).1)) (hm : Tm.validB q m = true) : RStep li20Ops Q (fun i => ((li20Es F p l k q m r)[i]?).getD .any) (fun i => (li20Ds[i]?).getD (1000 + i)) (look (li20Env F p l k q m r)) 105 1 := fun _ => step_move (by kernel_rfl) (Opd.of_base 12 rfl) rfl
theorem li20_2 {Q : Exit → Act → World → Prop} (F : Fo) (p : Pay) (l : Fo) (k : Nat) (q : Pay) (m r : Fo) (hd : Tm.dropF F k = .node q m r) (hd' : Tm.dropF (Tm.app F (Tm.elemsOf p l).1) k = .node q m (Tm.app r (Tm.elemsOf p l).1)) (hm : Tm.validB q m = true) : RStep li20Ops Q (fun i => ((li20Es F p l k q m r)[i]?).getD .any) (fun i => (li20Ds[i]?).getD (1000 + i)) (look (li20Env F p l k q m r)) 105 2 := fun _ => step_row_at (by kernel_rfl) (Opd.dep 0 rfl rfl (by kernel_rfl)) (Opd.dep 1 rfl rfl (by kernel_rfl)) hd' rfl
theorem li20_3 {Q : Exit → Act → World → Prop} (F : Fo) (p : Pay) (l : Fo) (k : Nat) (q : Pay) (m r : Fo) (hd : Tm.dropF F k = .node q m r) (hd' : Tm.dropF (Tm.app F (Tm.elemsOf p l).1) k = .node q m (Tm.app r (Tm.elemsOf p l).1)) (hm : Tm.validB q m = true) : RStep li20Ops Q (fun i => ((li20Es F p l k q m r)[i]?).getD .any) (fun i => (li20Ds[i]?).getD (1000 + i)) (look (li20Env F p l k q m r)) 105 3 := fun _ => step_load_term (by kernel_rfl) (Opd.dep 2 rfl rfl (by kernel_rfl)) rfl
theorem li20_4 {Q : Exit → Act → World → Prop} (F : Fo) (p : Pay) (l : Fo) (k : Nat) (q : Pay) (m r : Fo) (hd : Tm.dropF F k = .node q m r) (hd' : Tm.dropF (Tm.app F (Tm.elemsOf p l).1) k = .node q m (Tm.app r (Tm.elemsOf p l).1)) (hm : Tm.validB q m = true) : RStep li20Ops Q (fun i => ((li20Es F p l k q m r)[i]?).getD .any) (fun i => (li20Ds[i]?).getD (1000 + i)) (look (li20Env F p l k q m r)) 105 4 := fun _ => step_move (by kernel_rfl) (Opd.of_base 0 rfl) rfl
theorem li20_5 {Q : Exit → Act → World → Prop} (F : Fo) (p : Pay) (l : Fo) (k : Nat) (q : Pay) (m r : Fo) (hd : Tm.dropF F k = .node q m r) (hd' : Tm.dropF (Tm.app F (Tm.elemsOf p l).1) k = .node q m (Tm.app r (Tm.elemsOf p l).1)) (hm : Tm.validB q m = true) : RStep li20Ops Q (fun i => ((li20Es F p l k q m r)[i]?).getD .any) (fun i => (li20Ds[i]?).getD (1000 + i)) (look (li20Env F p l k q m r)) 105 5 := fun _ => step_move (by kernel_rfl) (Opd.of_base 12 rfl) rfl
theorem li20_6 {Q : Exit → Act → World → Prop} (F : Fo) (p : Pay) (l : Fo) (k : Nat) (q : Pay) (m r : Fo) (hd : Tm.dropF F k = .node q m r) (hd' : Tm.dropF (Tm.app F (Tm.elemsOf p l).1) k = .node q m (Tm.app r (Tm.elemsOf p l).1)) (hm : Tm.validB q m = true) : RStep li20Ops Q (fun i => ((li20Es F p l k q m r)[i]?).getD .any) (fun i => (li20Ds[i]?).getD (1000 + i)) (look (li20Env F p l k q m r)) 105 6 := fun _ => step_row_at (by kernel_rfl) (Opd.dep 4 rfl rfl (by kernel_rfl)) (Opd.dep 5 rfl rfl (by kernel_rfl)) hd rfl
theorem li20_7 {Q : Exit → Act → World → Prop} (F : Fo) (p : Pay) (l : Fo) (k : Nat) (q : Pay) (m r : Fo) (hd : Tm.dropF F k = .node q m r) (hd' : Tm.dropF (Tm.app F (Tm.elemsOf p l).1) k = .node q m (Tm.app r (Tm.elemsOf p l).1)) (hm : Tm.validB q m = true) : RStep li20Ops Q (fun i => ((li20Es F p l k q m r)[i]?).getD .any) (fun i => (li20Ds[i]?).getD (1000 + i)) (look (li20Env F p l k q m r)) 105 7 := fun _ => step_load_term (by kernel_rfl) (Opd.dep 6 rfl rfl (by kernel_rfl)) rfl
theorem li20_8 {Q : Exit → Act → World → Prop} (F : Fo) (p : Pay) (l : Fo) (k : Nat) (q : Pay) (m r : Fo) (hd : Tm.dropF F k = .node q m r) (hd' : Tm.dropF (Tm.app F (Tm.elemsOf p l).1) k = .node q m (Tm.app r (Tm.elemsOf p l).1)) (hm : Tm.validB q m = true) : RStep li20Ops Q (fun i => ((li20Es F p l k q m r)[i]?).getD .any) (fun i => (li20Ds[i]?).getD (1000 + i)) (look (li20Env F p l k q m r)) 105 8 := fun _ => step_same (by kernel_rfl) (Opd.dep 3 rfl rfl (by kernel_rfl)) (Opd.dep 7 rfl rfl (by kernel_rfl)) (Tm.same_self hm) rfl
theorem li20_9 {Q : Exit → Act → World → Prop} (F : Fo) (p : Pay) (l : Fo) (k : Nat) (q : Pay) (m r : Fo) (hd : Tm.dropF F k = .node q m r) (hd' : Tm.dropF (Tm.app F (Tm.elemsOf p l).1) k = .node q m (Tm.app r (Tm.elemsOf p l).1)) (hm : Tm.validB q m = true) : RStep li20Ops Q (fun i => ((li20Es F p l k q m r)[i]?).getD .any) (fun i => (li20Ds[i]?).getD (1000 + i)) (look (li20Env F p l k q m r)) 105 9 := fun _ => step_not (by kernel_rfl) (Opd.dep 8 rfl rfl (by kernel_rfl)) rfl
theorem li20_region {Q : Exit → Act → World → Prop} (F : Fo) (p : Pay) (l : Fo) (k : Nat) (q : Pay) (m r : Fo) (hd : Tm.dropF F k = .node q m r) (hd' : Tm.dropF (Tm.app F (Tm.elemsOf p l).1) k = .node q m (Tm.app r (Tm.elemsOf p l).1)) (hm : Tm.validB q m = true) {w0 : World} {a : Act} {w : World} (h : Hold 105 [(0, .row F), (5, .ptrT (Tm.listFn F p l).1 (Tm.listFn F p l).2), (8, .row (Tm.app F (Tm.elemsOf p l).1)), (9, .ptrT (Tm.elemsOf p l).2.1 (Tm.elemsOf p l).2.2), (12, .val (.int .i64 ((k : Nat) : Int)))] w0 a w)
    (hQ : ∀ a' w', Hold 105 [(0, .row F), (5, .ptrT (Tm.listFn F p l).1 (Tm.listFn F p l).2), (8, .row (Tm.app F (Tm.elemsOf p l).1)), (9, .ptrT (Tm.elemsOf p l).2.1 (Tm.elemsOf p l).2.2), (12, .val (.int .i64 ((k : Nat) : Int))), (96, .val (.bool false))] w0 a' w' → Q .normal a' w') : (Code.region 20 li20Ops true).wp Try.prog Q a w := by
  have hall : ∀ i, i < 0 → RStep li20Ops Q (fun i => ((li20Es F p l k q m r)[i]?).getD .any) (fun i => (li20Ds[i]?).getD (1000 + i)) (look (li20Env F p l k q m r)) 105 i := fun i hi => absurd hi (by omega)
  have hall := below_succ hall (li20_0 F p l k q m r hd hd' hm)
  have hall := below_succ hall (li20_1 F p l k q m r hd hd' hm)
  have hall := below_succ hall (li20_2 F p l k q m r hd hd' hm)
  have hall := below_succ hall (li20_3 F p l k q m r hd hd' hm)
  have hall := below_succ hall (li20_4 F p l k q m r hd hd' hm)
  have hall := below_succ hall (li20_5 F p l k q m r hd hd' hm)
  have hall := below_succ hall (li20_6 F p l k q m r hd hd' hm)
  have hall := below_succ hall (li20_7 F p l k q m r hd hd' hm)
  have hall := below_succ hall (li20_8 F p l k q m r hd hd' hm)
  have hall := below_succ hall (li20_9 F p l k q m r hd hd' hm)
  refine env_any (env := li20Env F p l k q m r) (N := 105) (w0 := w0) li20Ds (li20Es F p l k q m r) (by kernel_rfl) (by kernel_rfl) (of_decide_eq_true (by kernel_rfl)) (fun i hi => hall i (by rw [show (li20Es F p l k q m r).length = 10 by kernel_rfl] at hi; exact hi)) h fun a' w' h => ?_
  exact hQ a' w' (h.keep [0, 5, 8, 9, 12, 96])
theorem li19_region {Q : Exit → Act → World → Prop} (F : Fo) (p : Pay) (l : Fo) (k : Nat) (hk : k ≤ 5000) {w0 : World} {a : Act} {w : World} (h : Hold 105 [(0, .row F), (5, .ptrT (Tm.listFn F p l).1 (Tm.listFn F p l).2), (8, .row (Tm.app F (Tm.elemsOf p l).1)), (9, .ptrT (Tm.elemsOf p l).2.1 (Tm.elemsOf p l).2.2), (12, .val (.int .i64 ((k : Nat) : Int)))] w0 a w)
    (hQ : ∀ a' w', Hold 105 [(0, .row F), (5, .ptrT (Tm.listFn F p l).1 (Tm.listFn F p l).2), (8, .row (Tm.app F (Tm.elemsOf p l).1)), (9, .ptrT (Tm.elemsOf p l).2.1 (Tm.elemsOf p l).2.2), (12, .val (.int .i64 ((k + 1 : Nat) : Int)))] w0 a' w' → Q .normal a' w') : (Code.region 19 li19Ops false).wp Try.prog Q a w := by
  refine region_seq (w0 := w) 3 (by kernel_rfl) ?_
  rw [show List.range 3 = [0, 1, 2] from rfl]
  refine env_one (i := 0) (d := 85) (k := .val (.int .i64 ((k : Nat) : Int))) (step_move (by kernel_rfl) (Opd.of_base 12 rfl) rfl) (by kernel_rfl) (by decide) h ?_
  clear h
  intro a w h
  refine env_one (i := 1) (d := 86) (k := .val (.int .i64 ((k + 1 : Nat) : Int))) (step_add (by kernel_rfl) (Opd.of_base 85 rfl) (Opd.const _) (by rw [show ((k : Nat) : Int) + 1 = ((k + 1 : Nat) : Int) by omega]; exact IntWalk.i64_in _ (by omega)) rfl) (by kernel_rfl) (by decide) h ?_
  clear h
  intro a w h
  refine env_one (i := 2) (d := 12) (k := .val (.int .i64 ((k + 1 : Nat) : Int))) (step_assign (by kernel_rfl) (Opd.of_base 86 rfl) rfl) (by kernel_rfl) (by decide) h ?_
  clear h
  intro a w h
  exact hQ a w (h.keep [0, 5, 8, 9, 12])
def li22Es (F : Fo) (p : Pay) (l : Fo) : List Kd := [
  .row (Tm.app F (Tm.elemsOf p l).1),
  .term (Tm.elemsOf p l).2.1 (Tm.elemsOf p l).2.2,
  .term (Tm.listFn F p l).1 (Tm.listFn F p l).2,
  .term (Tm.listFn F p l).1 (Tm.listFn F p l).2,
  .val (.bool true),
  .val (.bool true),
  .val (.bool true),
  .val (.bool true),
  .val (.bool true)]
def li22Ds : List Nat := [97, 98, 99, 100, 101, 102, 103, 104, 4]
def li22Env (F : Fo) (p : Pay) (l : Fo) : Env := [(5, .ptrT (Tm.listFn F p l).1 (Tm.listFn F p l).2), (8, .row (Tm.app F (Tm.elemsOf p l).1)), (9, .ptrT (Tm.elemsOf p l).2.1 (Tm.elemsOf p l).2.2)]
theorem li22_0 {Q : Exit → Act → World → Prop} (F : Fo) (p : Pay) (l : Fo) (H : Tm.Listed F p l) : RStep li22Ops Q (fun i => ((li22Es F p l)[i]?).getD .any) (fun i => (li22Ds[i]?).getD (1000 + i)) (look (li22Env F p l)) 105 0 := fun _ => step_move (by kernel_rfl) (Opd.of_base 8 rfl) rfl
theorem li22_1 {Q : Exit → Act → World → Prop} (F : Fo) (p : Pay) (l : Fo) (H : Tm.Listed F p l) : RStep li22Ops Q (fun i => ((li22Es F p l)[i]?).getD .any) (fun i => (li22Ds[i]?).getD (1000 + i)) (look (li22Env F p l)) 105 1 := fun _ => step_load_term (by kernel_rfl) (Opd.of_base 9 rfl) rfl
theorem li22_2 {Q : Exit → Act → World → Prop} (F : Fo) (p : Pay) (l : Fo) (H : Tm.Listed F p l) : RStep li22Ops Q (fun i => ((li22Es F p l)[i]?).getD .any) (fun i => (li22Ds[i]?).getD (1000 + i)) (look (li22Env F p l)) 105 2 := fun _ => step_list (by kernel_rfl) (Opd.dep 0 rfl rfl (by kernel_rfl)) (Opd.dep 1 rfl rfl (by kernel_rfl)) H.back rfl
theorem li22_3 {Q : Exit → Act → World → Prop} (F : Fo) (p : Pay) (l : Fo) (H : Tm.Listed F p l) : RStep li22Ops Q (fun i => ((li22Es F p l)[i]?).getD .any) (fun i => (li22Ds[i]?).getD (1000 + i)) (look (li22Env F p l)) 105 3 := fun _ => step_load_term (by kernel_rfl) (Opd.of_base 5 rfl) rfl
theorem li22_4 {Q : Exit → Act → World → Prop} (F : Fo) (p : Pay) (l : Fo) (H : Tm.Listed F p l) : RStep li22Ops Q (fun i => ((li22Es F p l)[i]?).getD .any) (fun i => (li22Ds[i]?).getD (1000 + i)) (look (li22Env F p l)) 105 4 := fun _ => step_same (by kernel_rfl) (Opd.dep 2 rfl rfl (by kernel_rfl)) (Opd.dep 3 rfl rfl (by kernel_rfl)) (Tm.same_self H.valid) rfl
theorem li22_5 {Q : Exit → Act → World → Prop} (F : Fo) (p : Pay) (l : Fo) (H : Tm.Listed F p l) : RStep li22Ops Q (fun i => ((li22Es F p l)[i]?).getD .any) (fun i => (li22Ds[i]?).getD (1000 + i)) (look (li22Env F p l)) 105 5 := fun _ => step_move (by kernel_rfl) (Opd.dep 4 rfl rfl (by kernel_rfl)) rfl
theorem li22_6 {Q : Exit → Act → World → Prop} (F : Fo) (p : Pay) (l : Fo) (H : Tm.Listed F p l) : RStep li22Ops Q (fun i => ((li22Es F p l)[i]?).getD .any) (fun i => (li22Ds[i]?).getD (1000 + i)) (look (li22Env F p l)) 105 6 := fun _ => step_awake (by kernel_rfl) rfl
theorem li22_7 {Q : Exit → Act → World → Prop} (F : Fo) (p : Pay) (l : Fo) (H : Tm.Listed F p l) : RStep li22Ops Q (fun i => ((li22Es F p l)[i]?).getD .any) (fun i => (li22Ds[i]?).getD (1000 + i)) (look (li22Env F p l)) 105 7 := fun _ => step_pick_yes (y := .const (.bool false)) (by kernel_rfl) (Opd.dep 5 rfl rfl (by kernel_rfl)) (Opd.dep 6 rfl rfl (by kernel_rfl)) rfl
theorem li22_8 {Q : Exit → Act → World → Prop} (F : Fo) (p : Pay) (l : Fo) (H : Tm.Listed F p l) : RStep li22Ops Q (fun i => ((li22Es F p l)[i]?).getD .any) (fun i => (li22Ds[i]?).getD (1000 + i)) (look (li22Env F p l)) 105 8 := fun _ => step_assign (by kernel_rfl) (Opd.dep 7 rfl rfl (by kernel_rfl)) rfl
theorem li22_region {Q : Exit → Act → World → Prop} (F : Fo) (p : Pay) (l : Fo) (H : Tm.Listed F p l) {w0 : World} {a : Act} {w : World} (h : Hold 105 [(5, .ptrT (Tm.listFn F p l).1 (Tm.listFn F p l).2), (8, .row (Tm.app F (Tm.elemsOf p l).1)), (9, .ptrT (Tm.elemsOf p l).2.1 (Tm.elemsOf p l).2.2)] w0 a w)
    (hQ : ∀ a' w', Hold 105 [(4, .val (.bool true))] w0 a' w' → Q .normal a' w') : (Code.region 22 li22Ops true).wp Try.prog Q a w := by
  have hall : ∀ i, i < 0 → RStep li22Ops Q (fun i => ((li22Es F p l)[i]?).getD .any) (fun i => (li22Ds[i]?).getD (1000 + i)) (look (li22Env F p l)) 105 i := fun i hi => absurd hi (by omega)
  have hall := below_succ hall (li22_0 F p l H)
  have hall := below_succ hall (li22_1 F p l H)
  have hall := below_succ hall (li22_2 F p l H)
  have hall := below_succ hall (li22_3 F p l H)
  have hall := below_succ hall (li22_4 F p l H)
  have hall := below_succ hall (li22_5 F p l H)
  have hall := below_succ hall (li22_6 F p l H)
  have hall := below_succ hall (li22_7 F p l H)
  have hall := below_succ hall (li22_8 F p l H)
  refine env_any (env := li22Env F p l) (N := 105) (w0 := w0) li22Ds (li22Es F p l) (by kernel_rfl) (by kernel_rfl) (of_decide_eq_true (by kernel_rfl)) (fun i hi => hall i (by rw [show (li22Es F p l).length = 9 by kernel_rfl] at hi; exact hi)) h fun a' w' h => ?_
  exact hQ a' w' (h.keep [4])
theorem law_listed (F : Fo) (A : Option Addr) (c : Nat) (p : Pay) (l : Fo) (A' : Option Addr) (c' : Nat) (W : World) (hA : ArgsB W W.heap.size A (Tm.len F) F) (hA' : ArgsB W W.heap.size A' (Tm.len l) l) :
    Calls Try.prog 9 #[.slice A (Tm.len F) c, tv p A' (Tm.len l) c'] W fun e w' => e = .returned (.bool true) ∧ Below W.heap.size W w' := by
  refine calls_of_wp Try.func9 li_body ?_
  obtain ⟨v0, hv0⟩ : ∃ v : Value, v = .slice A (Tm.len F) c := ⟨_, rfl⟩
  obtain ⟨v1, hv1⟩ : ∃ v : Value, v = tv p A' (Tm.len l) c' := ⟨_, rfl⟩
  rw [← hv0, ← hv1]
  have hk0 : (Kd.row F).R v0 W := ⟨A, c, hv0, hA⟩
  have hk1 : (Kd.term p l).R v1 W := ⟨A', c', hv1, hA'⟩
  have hs : (#[v0, v1] ++ Array.replicate (Try.f9.ntmps - #[v0, v1].size) undef : Array Value).size = 105 := by kernel_rfl
  have g0 : (#[v0, v1] ++ Array.replicate (Try.f9.ntmps - #[v0, v1].size) undef : Array Value).getD 0 undef = v0 := by kernel_rfl
  have g1 : (#[v0, v1] ++ Array.replicate (Try.f9.ntmps - #[v0, v1].size) undef : Array Value).getD 1 undef = v1 := by kernel_rfl
  generalize (#[v0, v1] ++ Array.replicate (Try.f9.ntmps - #[v0, v1].size) undef : Array Value) = tm at hs g0 g1 ⊢
  refine wp_seq ?_
  refine li0_region F p l (w0 := W) ⟨hs, rfl, Below.refl _ _, (slots_cons 0 (by rw [g0]; exact hk0) (slots_cons 1 (by rw [g1]; exact hk1) slots_nil))⟩ ?_
  intro a w h
  show Code.wp _ _ _ a w
  refine wp_seq ?_
  refine li1_region F p l h ?_
  intro a w h
  show Code.wp _ _ _ a w
  refine wp_seq ?_
  refine wp_seq ?_
  by_cases hv : Tm.validB p l = true
  · by_cases hl : Tm.len F ≤ 2000
    · refine li2t_region F p l hv (by simp; omega) h ?_
      intro a w h
      show Code.wp _ _ _ a w
      refine env_cond (b := false) rfl h ?_
      rw [if_neg (by decide)]
      refine wp_skip ?_
      show Code.wp _ _ _ a w
      refine wp_seq ?_
      refine li4_region F p l hv (h.keep [0, 3, 5]) ?_
      intro a w h
      show Code.wp _ _ _ a w
      refine wp_seq ?_
      refine wp_seq ?_
      refine li5_region F p l h ?_
      intro a w h
      show Code.wp _ _ _ a w
      refine wp_block ?_
      refine wp_for (n := Tm.len F) (fun k a' w' => Hold 105 [(0, .row F), (3, .ptrT p l), (5, .ptrT (Tm.listFn F p l).1 (Tm.listFn F p l).2), (6, .val (.int .i64 ((Tm.listSz F l k : Nat) : Int))), (7, .val (.int .i64 ((k : Nat) : Int)))] W a' w' ∧ Tm.listSz F l k ≤ 2000 + 2001 * k ∧ ∀ j, j < k → ∀ q m r, Tm.dropF F j = .node q m r → Tm.validB q m = true) ⟨h, by rw [Tm.listSz_zero]; have := (Tm.valid_parts hv).1; omega, fun j hj => absurd hj (by omega)⟩ (fun k a w hk ⟨h, hsz, hall⟩ => ?_) (fun a w ⟨h, hsz, hall⟩ => ?_)
      · obtain ⟨q, m, r, hd⟩ := Tm.drop_at (F := F) hk
        refine wp_seq ?_
        refine wp_seq ?_
        refine li6t_region F p l k (by simpa using hk) h ?_
        intro a w h
        show Code.wp _ _ _ a w
        refine env_cond (b := true) rfl h ?_
        rw [if_pos rfl]
        refine wp_skip ?_
        show Code.wp _ _ _ a w
        refine wp_seq ?_
        refine wp_block ?_
        refine wp_seq ?_
        refine wp_seq ?_
        have h := h.keep [0, 3, 5, 6, 7]
        by_cases hm : Tm.validB q m = true
        · have hs1 := Tm.listSz_succ F l hd
          have hm1 := (Tm.valid_parts hm).1
          refine li8t_region F p l k q m r hd hm h ?_
          intro a w h
          show Code.wp _ _ _ a w
          refine env_cond (b := false) rfl h ?_
          rw [if_neg (by decide)]
          refine wp_skip ?_
          show Code.wp _ _ _ a w
          refine li10_region F p l k q m r hd hm (by omega) (h.keep [0, 3, 5, 6, 7]) ?_
          intro a w h
          show Code.wp _ _ _ a w
          refine li7_region F p l k (by omega) h ?_
          intro a w h
          refine ⟨h, by omega, fun j hj q' m' r' hd' => ?_⟩
          by_cases hjk : j = k
          · subst hjk
            rw [hd] at hd'
            cases hd'
            exact hm
          · exact hall j (by omega) q' m' r' hd'
        · have hm : Tm.validB q m = false := by simpa using hm
          refine li8f_region F p l k q m r hd hm h ?_
          intro a w h
          show Code.wp _ _ _ a w
          refine env_cond (b := true) rfl h ?_
          rw [if_pos rfl]
          refine wp_seq ?_
          refine li9_region F p l k (h.keep [0, 3, 5, 6, 7]) ?_
          intro a w h
          show Code.wp _ _ _ a w
          refine wp_ret ?_
          (try simp only [then_ret, block_ret])
          exact law_fin rfl (h.get 4 rfl) h.defers ⟨rfl, h.world⟩
      · refine wp_seq ?_
        refine wp_seq ?_
        refine li6f_region F p l _ (by simp) h ?_
        intro a w h
        show Code.wp _ _ _ a w
        refine env_cond (b := false) rfl h ?_
        rw [if_neg (by decide)]
        refine wp_exit ?_
        show Code.wp _ _ _ a w
        have h := h.keep [0, 3, 5, 6]
        refine wp_seq ?_
        refine wp_seq ?_
        by_cases hsz' : Tm.listSz F l (Tm.len F) ≤ 2000
        · have H := Tm.listed hv hall hsz'
          refine li11f_region F p l (by simp; omega) h ?_
          intro a w h
          show Code.wp _ _ _ a w
          refine env_cond (b := false) rfl h ?_
          rw [if_neg (by decide)]
          refine wp_skip ?_
          show Code.wp _ _ _ a w
          refine wp_seq ?_
          refine li13_region F p l H (h.keep [0, 3, 5, 6]) ?_
          intro a w h
          show Code.wp _ _ _ a w
          refine wp_seq ?_
          refine li14_region F p l H h ?_
          intro a w h
          show Code.wp _ _ _ a w
          refine wp_seq ?_
          refine wp_seq ?_
          refine li15_region F p l H h ?_
          intro a w h
          show Code.wp _ _ _ a w
          refine env_cond (b := false) rfl h ?_
          rw [if_neg (by decide)]
          refine wp_skip ?_
          show Code.wp _ _ _ a w
          refine wp_seq ?_
          refine wp_seq ?_
          refine li17_region F p l (h.keep [0, 5, 8, 9]) ?_
          intro a w h
          show Code.wp _ _ _ a w
          refine wp_block ?_
          refine wp_for (n := Tm.len F) (fun k a' w' => Hold 105 [(0, .row F), (5, .ptrT (Tm.listFn F p l).1 (Tm.listFn F p l).2), (8, .row (Tm.app F (Tm.elemsOf p l).1)), (9, .ptrT (Tm.elemsOf p l).2.1 (Tm.elemsOf p l).2.2), (12, .val (.int .i64 ((k : Nat) : Int)))] W a' w') h (fun k a w hk h => ?_) (fun a w h => ?_)
          · obtain ⟨q, m, r, hd⟩ := Tm.drop_at (F := F) hk
            have hd' : Tm.dropF (Tm.app F (Tm.elemsOf p l).1) k = .node q m (Tm.app r (Tm.elemsOf p l).1) := by rw [Tm.app_drop F _ k (by omega), hd]; rfl
            refine wp_seq ?_
            refine wp_seq ?_
            refine li18t_region F p l k (by simpa using hk) h ?_
            intro a w h
            show Code.wp _ _ _ a w
            refine env_cond (b := true) rfl h ?_
            rw [if_pos rfl]
            refine wp_skip ?_
            show Code.wp _ _ _ a w
            refine wp_seq ?_
            refine wp_block ?_
            refine wp_seq ?_
            refine li20_region F p l k q m r hd hd' (hall k hk q m r hd) (h.keep [0, 5, 8, 9, 12]) ?_
            intro a w h
            show Code.wp _ _ _ a w
            refine env_cond (b := false) rfl h ?_
            rw [if_neg (by decide)]
            refine wp_skip ?_
            show Code.wp _ _ _ a w
            refine li19_region F p l k (by omega) (h.keep [0, 5, 8, 9, 12]) ?_
            intro a w h
            exact h
          · refine wp_seq ?_
            refine wp_seq ?_
            refine li18f_region F p l _ (by simp) h ?_
            intro a w h
            show Code.wp _ _ _ a w
            refine env_cond (b := false) rfl h ?_
            rw [if_neg (by decide)]
            refine wp_exit ?_
            show Code.wp _ _ _ a w
            refine wp_seq ?_
            refine li22_region F p l H (h.keep [5, 8, 9]) ?_
            intro a w h
            show Code.wp _ _ _ a w
            refine wp_ret ?_
            (try simp only [then_ret, block_ret])
            exact law_fin rfl (h.get 4 rfl) h.defers ⟨rfl, h.world⟩
        · refine li11t_region F p l (by simp; omega) h ?_
          intro a w h
          show Code.wp _ _ _ a w
          refine env_cond (b := true) rfl h ?_
          rw [if_pos rfl]
          refine wp_seq ?_
          refine li12_region F p l (h.keep [0]) ?_
          intro a w h
          show Code.wp _ _ _ a w
          refine wp_ret ?_
          (try simp only [then_ret, block_ret])
          exact law_fin rfl (h.get 4 rfl) h.defers ⟨rfl, h.world⟩
    · refine li2b_region F p l hv (by simp; omega) h ?_
      intro a w h
      show Code.wp _ _ _ a w
      refine env_cond (b := true) rfl h ?_
      rw [if_pos rfl]
      refine wp_seq ?_
      refine li3_region F p l h ?_
      intro a w h
      show Code.wp _ _ _ a w
      refine wp_ret ?_
      (try simp only [then_ret, block_ret])
      exact law_fin rfl (h.get 4 rfl) h.defers ⟨rfl, h.world⟩
  · have hv : Tm.validB p l = false := by simpa using hv
    refine li2f_region F p l hv h ?_
    intro a w h
    show Code.wp _ _ _ a w
    refine env_cond (b := true) rfl h ?_
    rw [if_pos rfl]
    refine wp_seq ?_
    refine li3_region F p l h ?_
    intro a w h
    show Code.wp _ _ _ a w
    refine wp_ret ?_
    (try simp only [then_ret, block_ret])
    exact law_fin rfl (h.get 4 rfl) h.defers ⟨rfl, h.world⟩
end Go.Proofs.Ytmljkhofahgelaa
