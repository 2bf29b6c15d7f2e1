/-
  The statement BallsParts, as its function.
-/
import Derived.Test.YtapcnehpechkpaaFacts6
import Derived.Test.YtapcnehpechkpaaRefMore
import Derived.Test.YtapcnehpechkpaaRefInd
namespace Go.Proofs.Ytapcnehpechkpaa
set_option linter.unusedVariables false
set_option linter.unusedSimpArgs false
set_option maxRecDepth 100000
open Go.RowKit
namespace Bl
theorem elems_ok : ∀ (n : Nat) (p : Pay) (l : Fo), Tm.size l ≤ n → Tm.validB p l = true → Tm.allV (Tm.elemsOf p l).1 = true ∧ Tm.len (Tm.elemsOf p l).1 ≤ Tm.size l := by
  intro n
  induction n with
  | zero =>
    intro p l hn hv
    match l with
    | .nil => exact ⟨rfl, Nat.le_refl _⟩
    | .node p0 l0 r =>
      have : Tm.size (.node p0 l0 r) = 1 + Tm.size l0 + Tm.size r := rfl
      omega
  | succ n ih =>
    intro p l hn hv
    by_cases h : p.1 = 3 ∧ p.2.2 = ⟨#[46]⟩ ∧ Tm.len l = 2
    · obtain ⟨h1, h2, h3⟩ := h
      have v0 := valid_arg0 hv h3
      have v1 := valid_arg1 hv h3
      obtain ⟨p0, l0, p1, l1, rfl⟩ := Tm.len_two h3
      have hs : Tm.size (.node p0 l0 (.node p1 l1 .nil)) = 1 + Tm.size l0 + (1 + Tm.size l1 + 0) := rfl
      obtain ⟨i1, i2⟩ := ih p1 l1 (by omega) v1
      rw [Tm.elemsOf_cons p0 l0 p1 l1 h1 h2]
      refine ⟨?_, ?_⟩
      · show (Tm.validB p0 l0 && Tm.allV (Tm.elemsOf p1 l1).1) = true
        rw [show Tm.validB p0 l0 = true from v0, i1]
        rfl
      · show Tm.len (Tm.elemsOf p1 l1).1 + 1 ≤ _
        omega
    · rw [Tm.elemsOf_end h]
      exact ⟨rfl, Nat.zero_le _⟩
theorem list_rows (p : Pay) (l : Fo) : Tm.allV (list p l).1 = true ∧ Tm.len (list p l).1 ≤ 2000 := by
  unfold list listOf
  split
  · rename_i hv
    obtain ⟨h1, h2⟩ := elems_ok _ p l (Nat.le_refl _) hv
    have h3 : Tm.size l ≤ 2000 := by
      unfold Tm.validB at hv
      rw [Bool.and_eq_true, decide_eq_true_eq] at hv
      omega
    split
    · exact ⟨rfl, Nat.zero_le _⟩
    · split
      · exact ⟨h1, Nat.le_trans h2 h3⟩
      · exact ⟨rfl, Nat.zero_le _⟩
  · exact ⟨rfl, Nat.zero_le _⟩
end Bl
noncomputable def lParts0Ops : Array Oper := ((Try.f6.body).bind (findReg 0)).getD #[]
noncomputable def lParts1Ops : Array Oper := ((Try.f6.body).bind (findReg 1)).getD #[]
noncomputable def lParts2Ops : Array Oper := ((Try.f6.body).bind (findReg 2)).getD #[]
noncomputable def lParts3Ops : Array Oper := ((Try.f6.body).bind (findReg 3)).getD #[]
noncomputable def lParts4Ops : Array Oper := ((Try.f6.body).bind (findReg 4)).getD #[]
noncomputable def lParts5Ops : Array Oper := ((Try.f6.body).bind (findReg 5)).getD #[]
noncomputable def lParts6Ops : Array Oper := ((Try.f6.body).bind (findReg 6)).getD #[]
noncomputable def lParts7Ops : Array Oper := ((Try.f6.body).bind (findReg 7)).getD #[]
noncomputable def lParts8Ops : Array Oper := ((Try.f6.body).bind (findReg 8)).getD #[]
noncomputable def lParts9Ops : Array Oper := ((Try.f6.body).bind (findReg 9)).getD #[]
noncomputable def lParts10Ops : Array Oper := ((Try.f6.body).bind (findReg 10)).getD #[]
noncomputable def lParts11Ops : Array Oper := ((Try.f6.body).bind (findReg 11)).getD #[]
noncomputable def lParts12Ops : Array Oper := ((Try.f6.body).bind (findReg 12)).getD #[]
noncomputable def lParts13Ops : Array Oper := ((Try.f6.body).bind (findReg 13)).getD #[]
noncomputable def lParts14Ops : Array Oper := ((Try.f6.body).bind (findReg 14)).getD #[]
noncomputable def lParts15Ops : Array Oper := ((Try.f6.body).bind (findReg 15)).getD #[]
theorem lParts_body : Try.f6.body = some (.seq (.region 0 lParts0Ops false) (.seq (.region 1 lParts1Ops false) (.seq (.region 2 lParts2Ops false) (.seq (.seq (.region 3 lParts3Ops false) (.cond (.tmp 49) (.seq (.region 4 lParts4Ops false) .ret) .skip)) (.seq (.region 5 lParts5Ops false) (.seq (.region 6 lParts6Ops false) (.seq (.seq (.region 7 lParts7Ops false) (.cond (.tmp 75) (.seq (.region 8 lParts8Ops false) .ret) .skip)) (.seq (.region 9 lParts9Ops false) (.seq (.region 10 lParts10Ops false) (.seq (.seq (.region 11 lParts11Ops false) (.cond (.tmp 101) (.seq (.region 12 lParts12Ops false) .ret) .skip)) (.seq (.region 13 lParts13Ops false) (.seq (.region 14 lParts14Ops false) (.seq (.region 15 lParts15Ops false) .ret))))))))))))) := by kernel_rfl
theorem lParts0a_region {Q : Exit → Act → World → Prop} (p0 : Pay) (l0 : Fo)  {w0 : World} {a : Act} {w : World} (h : Hold 137 [(0, .term p0 l0), (990, .sat (gP 0 none))] w0 a w)
    (hQ : ∀ a' w', Hold 137 [(990, .sat (gP 0 none)), (1, .ptrT p0 l0), (2, .val (.bool false))] w0 a' w' → Q .normal a' w') : (Code.region 0 lParts0Ops false).wp Try.prog Q a w := by
  refine region_seq (w0 := w) 2 (by kernel_rfl) ?_
  rw [show List.range 2 = [0, 1] from rfl]
  refine env_one (i := 0) (d := 1) (k := .ptrT p0 l0) (step_box (by kernel_rfl) (Opd.of_base 0 rfl) rfl) (by kernel_rfl) (by decide) h ?_
  clear h
  intro a w h
  refine env_one (i := 1) (d := 2) (k := .val (.bool false)) (step_assign (by kernel_rfl) (Opd.const _) rfl) (by kernel_rfl) (by decide) h ?_
  clear h
  intro a w h
  exact hQ a w (h.keep [990, 1, 2])
theorem lParts1a_region {Q : Exit → Act → World → Prop} (p0 : Pay) (l0 : Fo)  {w0 : World} {a : Act} {w : World} (h : Hold 137 [(990, .sat (gP 0 none)), (1, .ptrT p0 l0), (2, .val (.bool false))] w0 a w)
    (hQ : ∀ a' w', Hold 137 [(990, .sat (gP 0 none)), (1, .ptrT p0 l0), (2, .val (.bool false)), (4, .ptrT (((Bl.list p0 l0).2.1).1) (((Bl.list p0 l0).2.1).2)), (3, .sat (nR 0 none ((Bl.list p0 l0).1))), (5, .val (.bool ((Bl.list p0 l0).2.2)))] w0 a' w' → Q .normal a' w') : (Code.region 1 lParts1Ops false).wp Try.prog Q a w := by
  refine region_seq (w0 := w) 10 (by kernel_rfl) ?_
  rw [show List.range 10 = [0, 1, 2, 3, 4, 5, 6, 7, 8, 9] from rfl]
  refine env_one (i := 0) (d := 24) (k := .term p0 l0) (step_load_term (by kernel_rfl) (Opd.of_base 1 rfl) rfl) (by kernel_rfl) (by decide) h ?_
  clear h
  intro a w h
  refine env_one (i := 1) (d := 25) (k := .sat (nL3 0 none ((Bl.list p0 l0).1) (((Bl.list p0 l0).2.1).1) (((Bl.list p0 l0).2.1).2) ((Bl.list p0 l0).2.2))) (step_bList (g := 990) (by kernel_rfl) (Opd.of_base 24 rfl) (Opd.of_base 990 rfl) rfl) (by kernel_rfl) (by decide) h ?_
  clear h
  intro a w h
  refine env_one (i := 2) (d := 23) (k := .sat (nL3 0 none ((Bl.list p0 l0).1) (((Bl.list p0 l0).2.1).1) (((Bl.list p0 l0).2.1).2) ((Bl.list p0 l0).2.2))) (step_move (by kernel_rfl) (Opd.of_base 25 rfl) rfl) (by kernel_rfl) (by decide) h ?_
  clear h
  intro a w h
  refine env_one (i := 3) (d := 26) (k := .sat (nR 0 none ((Bl.list p0 l0).1))) (step_nL3_0 (by kernel_rfl) (Opd.of_base 23 rfl) rfl) (by kernel_rfl) (by decide) h ?_
  clear h
  intro a w h
  refine env_one (i := 4) (d := 27) (k := .sat (nT 0 none (((Bl.list p0 l0).2.1).1) (((Bl.list p0 l0).2.1).2))) (step_nL3_1 (by kernel_rfl) (Opd.of_base 23 rfl) rfl) (by kernel_rfl) (by decide) h ?_
  clear h
  intro a w h
  refine env_one (i := 5) (d := 28) (k := .val (.bool ((Bl.list p0 l0).2.2))) (step_nL3_2 (by kernel_rfl) (Opd.of_base 23 rfl) rfl) (by kernel_rfl) (by decide) h ?_
  clear h
  intro a w h
  have h := h.cast 27 rfl
  refine env_box3 (i := 6) (d := 4) (e := 3) (by kernel_rfl) (by decide) (by kernel_rfl) (by decide) (x := 26) rfl (by decide) (by decide) (by kernel_rfl) (by decide) (by decide) (s := 27) rfl h ?_
  clear h
  intro a w h
  refine env_one (i := 9) (d := 5) (k := .val (.bool ((Bl.list p0 l0).2.2))) (step_assign (by kernel_rfl) (Opd.of_base 28 rfl) rfl) (by kernel_rfl) (by decide) h ?_
  clear h
  intro a w h
  exact hQ a w (h.keep [990, 1, 2, 4, 3, 5])
theorem lParts2a_region {Q : Exit → Act → World → Prop} (p0 : Pay) (l0 : Fo)  {w0 : World} {a : Act} {w : World} (h : Hold 137 [(990, .sat (gP 0 none)), (1, .ptrT p0 l0), (2, .val (.bool false)), (4, .ptrT (((Bl.list p0 l0).2.1).1) (((Bl.list p0 l0).2.1).2)), (3, .sat (nR 0 none ((Bl.list p0 l0).1))), (5, .val (.bool ((Bl.list p0 l0).2.2)))] w0 a w)
    (hQ : ∀ a' w', Hold 137 [(990, .sat (gP 0 none)), (1, .ptrT p0 l0), (2, .val (.bool false)), (4, .ptrT (((Bl.list p0 l0).2.1).1) (((Bl.list p0 l0).2.1).2)), (3, .sat (nR 0 none ((Bl.list p0 l0).1))), (5, .val (.bool ((Bl.list p0 l0).2.2))), (7, .ptrT (((Bl.list p0 l0).2.1).1) (((Bl.list p0 l0).2.1).2)), (6, .sat (nR 0 none ((Bl.list p0 l0).1))), (8, .val (.bool ((Bl.list p0 l0).2.2)))] w0 a' w' → Q .normal a' w') : (Code.region 2 lParts2Ops false).wp Try.prog Q a w := by
  refine region_seq (w0 := w) 10 (by kernel_rfl) ?_
  rw [show List.range 10 = [0, 1, 2, 3, 4, 5, 6, 7, 8, 9] from rfl]
  refine env_one (i := 0) (d := 30) (k := .term p0 l0) (step_load_term (by kernel_rfl) (Opd.of_base 1 rfl) rfl) (by kernel_rfl) (by decide) h ?_
  clear h
  intro a w h
  refine env_one (i := 1) (d := 31) (k := .sat (nL3 0 none ((Bl.list p0 l0).1) (((Bl.list p0 l0).2.1).1) (((Bl.list p0 l0).2.1).2) ((Bl.list p0 l0).2.2))) (step_rList6 (g := 990) (by kernel_rfl) (Opd.of_base 30 rfl) (Opd.of_base 990 rfl) rfl) (by kernel_rfl) (by decide) h ?_
  clear h
  intro a w h
  refine env_one (i := 2) (d := 29) (k := .sat (nL3 0 none ((Bl.list p0 l0).1) (((Bl.list p0 l0).2.1).1) (((Bl.list p0 l0).2.1).2) ((Bl.list p0 l0).2.2))) (step_move (by kernel_rfl) (Opd.of_base 31 rfl) rfl) (by kernel_rfl) (by decide) h ?_
  clear h
  intro a w h
  refine env_one (i := 3) (d := 32) (k := .sat (nR 0 none ((Bl.list p0 l0).1))) (step_nL3_0 (by kernel_rfl) (Opd.of_base 29 rfl) rfl) (by kernel_rfl) (by decide) h ?_
  clear h
  intro a w h
  refine env_one (i := 4) (d := 33) (k := .sat (nT 0 none (((Bl.list p0 l0).2.1).1) (((Bl.list p0 l0).2.1).2))) (step_nL3_1 (by kernel_rfl) (Opd.of_base 29 rfl) rfl) (by kernel_rfl) (by decide) h ?_
  clear h
  intro a w h
  refine env_one (i := 5) (d := 34) (k := .val (.bool ((Bl.list p0 l0).2.2))) (step_nL3_2 (by kernel_rfl) (Opd.of_base 29 rfl) rfl) (by kernel_rfl) (by decide) h ?_
  clear h
  intro a w h
  have h := h.cast 33 rfl
  refine env_box3 (i := 6) (d := 7) (e := 6) (by kernel_rfl) (by decide) (by kernel_rfl) (by decide) (x := 32) rfl (by decide) (by decide) (by kernel_rfl) (by decide) (by decide) (s := 33) rfl h ?_
  clear h
  intro a w h
  refine env_one (i := 9) (d := 8) (k := .val (.bool ((Bl.list p0 l0).2.2))) (step_assign (by kernel_rfl) (Opd.of_base 34 rfl) rfl) (by kernel_rfl) (by decide) h ?_
  clear h
  intro a w h
  exact hQ a w (h.keep [990, 1, 2, 4, 3, 5, 7, 6, 8])
theorem lParts3a_region {Q : Exit → Act → World → Prop} (p0 : Pay) (l0 : Fo)  {w0 : World} {a : Act} {w : World} (h : Hold 137 [(990, .sat (gP 0 none)), (1, .ptrT p0 l0), (2, .val (.bool false)), (4, .ptrT (((Bl.list p0 l0).2.1).1) (((Bl.list p0 l0).2.1).2)), (3, .sat (nR 0 none ((Bl.list p0 l0).1))), (5, .val (.bool ((Bl.list p0 l0).2.2))), (7, .ptrT (((Bl.list p0 l0).2.1).1) (((Bl.list p0 l0).2.1).2)), (6, .sat (nR 0 none ((Bl.list p0 l0).1))), (8, .val (.bool ((Bl.list p0 l0).2.2)))] w0 a w)
    (hQ : ∀ a' w', Hold 137 [(990, .sat (gP 0 none)), (1, .ptrT p0 l0), (2, .val (.bool false)), (5, .val (.bool ((Bl.list p0 l0).2.2))), (8, .val (.bool ((Bl.list p0 l0).2.2))), (49, .val (.bool false))] w0 a' w' → Q .normal a' w') : (Code.region 3 lParts3Ops false).wp Try.prog Q a w := by
  refine region_seq (w0 := w) 15 (by kernel_rfl) ?_
  rw [show List.range 15 = [0, 1, 2, 3, 4, 5, 6, 7, 8, 9, 10, 11, 12, 13, 14] from rfl]
  refine env_one (i := 0) (d := 35) (k := .sat (nR 0 none ((Bl.list p0 l0).1))) (step_move (by kernel_rfl) (Opd.of_base 3 rfl) rfl) (by kernel_rfl) (by decide) h ?_
  clear h
  intro a w h
  refine env_one (i := 1) (d := 36) (k := .sat (nR 0 none ((Bl.list p0 l0).1))) (step_move (by kernel_rfl) (Opd.of_base 6 rfl) rfl) (by kernel_rfl) (by decide) h ?_
  clear h
  intro a w h
  refine env_one (i := 2) (d := 37) (k := .val (.bool true)) (step_sameAll6 (by exact Nat.le_trans (Bl.list_rows p0 l0).2 (by decide)) (by kernel_rfl) (Opd.ofR (Opd.of_base 35 rfl)) (Opd.ofR (Opd.of_base 36 rfl)) (by rw [Tm.sameRows_refl (Bl.list_rows p0 l0).1]; rfl)) (by kernel_rfl) (by decide) h ?_
  clear h
  intro a w h
  refine env_one (i := 3) (d := 38) (k := .val (.bool false)) (step_not (by kernel_rfl) (Opd.of_base 37 rfl) rfl) (by kernel_rfl) (by decide) h ?_
  clear h
  intro a w h
  refine env_one (i := 4) (d := 39) (k := .val (.bool false)) (step_move (by kernel_rfl) (Opd.of_base 38 rfl) rfl) (by kernel_rfl) (by decide) h ?_
  clear h
  intro a w h
  refine env_guard (i := 5) (d := 40) (g := 4) (dg := 39) (b := false) (k := .term (((Bl.list p0 l0).2.1).1) (((Bl.list p0 l0).2.1).2)) (step_load_term (by kernel_rfl) (Opd.of_base 4 rfl) rfl) (by kernel_rfl) (by decide) (by kernel_rfl) (by decide) rfl h ?_
  clear h
  intro a w h
  refine env_guard (i := 6) (d := 41) (g := 4) (dg := 39) (b := false) (k := .term (((Bl.list p0 l0).2.1).1) (((Bl.list p0 l0).2.1).2)) (step_load_term (by kernel_rfl) (Opd.of_base 7 rfl) rfl) (by kernel_rfl) (by decide) (by kernel_rfl) (by decide) rfl h ?_
  clear h
  intro a w h
  refine env_guard (i := 7) (d := 42) (g := 4) (dg := 39) (b := false) (k := .val (.bool true)) (step_lsame (by kernel_rfl) (Opd.of_base 40 rfl) (Opd.of_base 41 rfl) (by rw [same_self (Bl.list_valid p0 l0)]; rfl)) (by kernel_rfl) (by decide) (by kernel_rfl) (by decide) rfl h ?_
  clear h
  intro a w h
  refine env_guard (i := 8) (d := 43) (g := 4) (dg := 39) (b := false) (k := .val (.bool false)) (step_not (by kernel_rfl) (Opd.of_base 42 rfl) rfl) (by kernel_rfl) (by decide) (by kernel_rfl) (by decide) rfl h ?_
  clear h
  intro a w h
  refine env_one (i := 9) (d := 44) (k := .val (.bool false)) (step_pick_no (x := .const (.bool true)) (by kernel_rfl) (Opd.of_base 39 rfl) (Opd.of_base 43 rfl) rfl) (by kernel_rfl) (by decide) h ?_
  clear h
  intro a w h
  refine env_one (i := 10) (d := 45) (k := .val (.bool false)) (step_move (by kernel_rfl) (Opd.of_base 44 rfl) rfl) (by kernel_rfl) (by decide) h ?_
  clear h
  intro a w h
  refine env_guard (i := 11) (d := 46) (g := 10) (dg := 45) (b := false) (k := .val (.bool ((Bl.list p0 l0).2.2))) (step_move (by kernel_rfl) (Opd.of_base 5 rfl) rfl) (by kernel_rfl) (by decide) (by kernel_rfl) (by decide) rfl h ?_
  clear h
  intro a w h
  refine env_guard (i := 12) (d := 47) (g := 10) (dg := 45) (b := false) (k := .val (.bool ((Bl.list p0 l0).2.2))) (step_move (by kernel_rfl) (Opd.of_base 8 rfl) rfl) (by kernel_rfl) (by decide) (by kernel_rfl) (by decide) rfl h ?_
  clear h
  intro a w h
  refine env_guard (i := 13) (d := 48) (g := 10) (dg := 45) (b := false) (k := .val (.bool false)) (step_ne_bool (by kernel_rfl) (Opd.of_base 46 rfl) (Opd.of_base 47 rfl) (by simp) rfl) (by kernel_rfl) (by decide) (by kernel_rfl) (by decide) rfl h ?_
  clear h
  intro a w h
  refine env_one (i := 14) (d := 49) (k := .val (.bool false)) (step_pick_no (x := .const (.bool true)) (by kernel_rfl) (Opd.of_base 45 rfl) (Opd.of_base 48 rfl) rfl) (by kernel_rfl) (by decide) h ?_
  clear h
  intro a w h
  exact hQ a w (h.keep [990, 1, 2, 5, 8, 49])
theorem lParts5a_region {Q : Exit → Act → World → Prop} (p0 : Pay) (l0 : Fo)  {w0 : World} {a : Act} {w : World} (h : Hold 137 [(990, .sat (gP 0 none)), (1, .ptrT p0 l0), (2, .val (.bool false)), (5, .val (.bool ((Bl.list p0 l0).2.2))), (8, .val (.bool ((Bl.list p0 l0).2.2)))] w0 a w)
    (hQ : ∀ a' w', Hold 137 [(990, .sat (gP 0 none)), (1, .ptrT p0 l0), (2, .val (.bool false)), (5, .val (.bool ((Bl.char p0 l0).2.2))), (8, .val (.bool ((Bl.list p0 l0).2.2))), (10, .ptrT (((Bl.char p0 l0).2.1).1) (((Bl.char p0 l0).2.1).2)), (9, .val (.int .i64 (Bl.char p0 l0).1))] w0 a' w' → Q .normal a' w') : (Code.region 5 lParts5Ops false).wp Try.prog Q a w := by
  refine region_seq (w0 := w) 10 (by kernel_rfl) ?_
  rw [show List.range 10 = [0, 1, 2, 3, 4, 5, 6, 7, 8, 9] from rfl]
  refine env_one (i := 0) (d := 51) (k := .term p0 l0) (step_load_term (by kernel_rfl) (Opd.of_base 1 rfl) rfl) (by kernel_rfl) (by decide) h ?_
  clear h
  intro a w h
  refine env_one (i := 1) (d := 52) (k := .sat (nT3 0 none (.int .i64 (Bl.char p0 l0).1) (((Bl.char p0 l0).2.1).1) (((Bl.char p0 l0).2.1).2) ((Bl.char p0 l0).2.2))) (step_bChar (g := 990) (by kernel_rfl) (Opd.of_base 51 rfl) (Opd.of_base 990 rfl) rfl) (by kernel_rfl) (by decide) h ?_
  clear h
  intro a w h
  refine env_one (i := 2) (d := 50) (k := .sat (nT3 0 none (.int .i64 (Bl.char p0 l0).1) (((Bl.char p0 l0).2.1).1) (((Bl.char p0 l0).2.1).2) ((Bl.char p0 l0).2.2))) (step_move (by kernel_rfl) (Opd.of_base 52 rfl) rfl) (by kernel_rfl) (by decide) h ?_
  clear h
  intro a w h
  refine env_one (i := 3) (d := 53) (k := .val (.int .i64 (Bl.char p0 l0).1)) (step_nT3_0 (by kernel_rfl) (Opd.of_base 50 rfl) rfl) (by kernel_rfl) (by decide) h ?_
  clear h
  intro a w h
  refine env_one (i := 4) (d := 54) (k := .sat (nT 0 none (((Bl.char p0 l0).2.1).1) (((Bl.char p0 l0).2.1).2))) (step_nT3_1 (by kernel_rfl) (Opd.of_base 50 rfl) rfl) (by kernel_rfl) (by decide) h ?_
  clear h
  intro a w h
  refine env_one (i := 5) (d := 55) (k := .val (.bool ((Bl.char p0 l0).2.2))) (step_nT3_2 (by kernel_rfl) (Opd.of_base 50 rfl) rfl) (by kernel_rfl) (by decide) h ?_
  clear h
  intro a w h
  have h := h.cast 54 rfl
  refine env_box3 (i := 6) (d := 10) (e := 9) (by kernel_rfl) (by decide) (by kernel_rfl) (by decide) (x := 53) rfl (by decide) (by decide) (by kernel_rfl) (by decide) (by decide) (s := 54) rfl h ?_
  clear h
  intro a w h
  refine env_one (i := 9) (d := 5) (k := .val (.bool ((Bl.char p0 l0).2.2))) (step_assign (by kernel_rfl) (Opd.of_base 55 rfl) rfl) (by kernel_rfl) (by decide) h ?_
  clear h
  intro a w h
  exact hQ a w (h.keep [990, 1, 2, 5, 8, 10, 9])
theorem lParts6a_region {Q : Exit → Act → World → Prop} (p0 : Pay) (l0 : Fo)  {w0 : World} {a : Act} {w : World} (h : Hold 137 [(990, .sat (gP 0 none)), (1, .ptrT p0 l0), (2, .val (.bool false)), (5, .val (.bool ((Bl.char p0 l0).2.2))), (8, .val (.bool ((Bl.list p0 l0).2.2))), (10, .ptrT (((Bl.char p0 l0).2.1).1) (((Bl.char p0 l0).2.1).2)), (9, .val (.int .i64 (Bl.char p0 l0).1))] w0 a w)
    (hQ : ∀ a' w', Hold 137 [(990, .sat (gP 0 none)), (1, .ptrT p0 l0), (2, .val (.bool false)), (5, .val (.bool ((Bl.char p0 l0).2.2))), (8, .val (.bool ((Bl.char p0 l0).2.2))), (10, .ptrT (((Bl.char p0 l0).2.1).1) (((Bl.char p0 l0).2.1).2)), (9, .val (.int .i64 (Bl.char p0 l0).1)), (12, .ptrT (((Bl.char p0 l0).2.1).1) (((Bl.char p0 l0).2.1).2)), (11, .val (.int .i64 (Bl.char p0 l0).1))] w0 a' w' → Q .normal a' w') : (Code.region 6 lParts6Ops false).wp Try.prog Q a w := by
  refine region_seq (w0 := w) 10 (by kernel_rfl) ?_
  rw [show List.range 10 = [0, 1, 2, 3, 4, 5, 6, 7, 8, 9] from rfl]
  refine env_one (i := 0) (d := 57) (k := .term p0 l0) (step_load_term (by kernel_rfl) (Opd.of_base 1 rfl) rfl) (by kernel_rfl) (by decide) h ?_
  clear h
  intro a w h
  refine env_one (i := 1) (d := 58) (k := .sat (nT3 0 none (.int .i64 (Bl.char p0 l0).1) (((Bl.char p0 l0).2.1).1) (((Bl.char p0 l0).2.1).2) ((Bl.char p0 l0).2.2))) (step_rChar (g := 990) (by kernel_rfl) (Opd.of_base 57 rfl) (Opd.of_base 990 rfl) rfl) (by kernel_rfl) (by decide) h ?_
  clear h
  intro a w h
  refine env_one (i := 2) (d := 56) (k := .sat (nT3 0 none (.int .i64 (Bl.char p0 l0).1) (((Bl.char p0 l0).2.1).1) (((Bl.char p0 l0).2.1).2) ((Bl.char p0 l0).2.2))) (step_move (by kernel_rfl) (Opd.of_base 58 rfl) rfl) (by kernel_rfl) (by decide) h ?_
  clear h
  intro a w h
  refine env_one (i := 3) (d := 59) (k := .val (.int .i64 (Bl.char p0 l0).1)) (step_nT3_0 (by kernel_rfl) (Opd.of_base 56 rfl) rfl) (by kernel_rfl) (by decide) h ?_
  clear h
  intro a w h
  refine env_one (i := 4) (d := 60) (k := .sat (nT 0 none (((Bl.char p0 l0).2.1).1) (((Bl.char p0 l0).2.1).2))) (step_nT3_1 (by kernel_rfl) (Opd.of_base 56 rfl) rfl) (by kernel_rfl) (by decide) h ?_
  clear h
  intro a w h
  refine env_one (i := 5) (d := 61) (k := .val (.bool ((Bl.char p0 l0).2.2))) (step_nT3_2 (by kernel_rfl) (Opd.of_base 56 rfl) rfl) (by kernel_rfl) (by decide) h ?_
  clear h
  intro a w h
  have h := h.cast 60 rfl
  refine env_box3 (i := 6) (d := 12) (e := 11) (by kernel_rfl) (by decide) (by kernel_rfl) (by decide) (x := 59) rfl (by decide) (by decide) (by kernel_rfl) (by decide) (by decide) (s := 60) rfl h ?_
  clear h
  intro a w h
  refine env_one (i := 9) (d := 8) (k := .val (.bool ((Bl.char p0 l0).2.2))) (step_assign (by kernel_rfl) (Opd.of_base 61 rfl) rfl) (by kernel_rfl) (by decide) h ?_
  clear h
  intro a w h
  exact hQ a w (h.keep [990, 1, 2, 5, 8, 10, 9, 12, 11])
theorem lParts7a_region {Q : Exit → Act → World → Prop} (p0 : Pay) (l0 : Fo)  {w0 : World} {a : Act} {w : World} (h : Hold 137 [(990, .sat (gP 0 none)), (1, .ptrT p0 l0), (2, .val (.bool false)), (5, .val (.bool ((Bl.char p0 l0).2.2))), (8, .val (.bool ((Bl.char p0 l0).2.2))), (10, .ptrT (((Bl.char p0 l0).2.1).1) (((Bl.char p0 l0).2.1).2)), (9, .val (.int .i64 (Bl.char p0 l0).1)), (12, .ptrT (((Bl.char p0 l0).2.1).1) (((Bl.char p0 l0).2.1).2)), (11, .val (.int .i64 (Bl.char p0 l0).1))] w0 a w)
    (hQ : ∀ a' w', Hold 137 [(990, .sat (gP 0 none)), (1, .ptrT p0 l0), (2, .val (.bool false)), (5, .val (.bool ((Bl.char p0 l0).2.2))), (8, .val (.bool ((Bl.char p0 l0).2.2))), (75, .val (.bool false))] w0 a' w' → Q .normal a' w') : (Code.region 7 lParts7Ops false).wp Try.prog Q a w := by
  refine region_seq (w0 := w) 14 (by kernel_rfl) ?_
  rw [show List.range 14 = [0, 1, 2, 3, 4, 5, 6, 7, 8, 9, 10, 11, 12, 13] from rfl]
  refine env_one (i := 0) (d := 62) (k := .val (.int .i64 (Bl.char p0 l0).1)) (step_move (by kernel_rfl) (Opd.of_base 9 rfl) rfl) (by kernel_rfl) (by decide) h ?_
  clear h
  intro a w h
  refine env_one (i := 1) (d := 63) (k := .val (.int .i64 (Bl.char p0 l0).1)) (step_move (by kernel_rfl) (Opd.of_base 11 rfl) rfl) (by kernel_rfl) (by decide) h ?_
  clear h
  intro a w h
  refine env_one (i := 2) (d := 64) (k := .val (.bool false)) (step_ne_int (m := (Bl.char p0 l0).1) (n := (Bl.char p0 l0).1) (by kernel_rfl) (Opd.of_base 62 rfl) (Opd.of_base 63 rfl) (by simp) rfl) (by kernel_rfl) (by decide) h ?_
  clear h
  intro a w h
  refine env_one (i := 3) (d := 65) (k := .val (.bool false)) (step_move (by kernel_rfl) (Opd.of_base 64 rfl) rfl) (by kernel_rfl) (by decide) h ?_
  clear h
  intro a w h
  refine env_guard (i := 4) (d := 66) (g := 3) (dg := 65) (b := false) (k := .term (((Bl.char p0 l0).2.1).1) (((Bl.char p0 l0).2.1).2)) (step_load_term (by kernel_rfl) (Opd.of_base 10 rfl) rfl) (by kernel_rfl) (by decide) (by kernel_rfl) (by decide) rfl h ?_
  clear h
  intro a w h
  refine env_guard (i := 5) (d := 67) (g := 3) (dg := 65) (b := false) (k := .term (((Bl.char p0 l0).2.1).1) (((Bl.char p0 l0).2.1).2)) (step_load_term (by kernel_rfl) (Opd.of_base 12 rfl) rfl) (by kernel_rfl) (by decide) (by kernel_rfl) (by decide) rfl h ?_
  clear h
  intro a w h
  refine env_guard (i := 6) (d := 68) (g := 3) (dg := 65) (b := false) (k := .val (.bool true)) (step_lsame (by kernel_rfl) (Opd.of_base 66 rfl) (Opd.of_base 67 rfl) (by rw [same_self (Bl.char_valid p0 l0)]; rfl)) (by kernel_rfl) (by decide) (by kernel_rfl) (by decide) rfl h ?_
  clear h
  intro a w h
  refine env_guard (i := 7) (d := 69) (g := 3) (dg := 65) (b := false) (k := .val (.bool false)) (step_not (by kernel_rfl) (Opd.of_base 68 rfl) rfl) (by kernel_rfl) (by decide) (by kernel_rfl) (by decide) rfl h ?_
  clear h
  intro a w h
  refine env_one (i := 8) (d := 70) (k := .val (.bool false)) (step_pick_no (x := .const (.bool true)) (by kernel_rfl) (Opd.of_base 65 rfl) (Opd.of_base 69 rfl) rfl) (by kernel_rfl) (by decide) h ?_
  clear h
  intro a w h
  refine env_one (i := 9) (d := 71) (k := .val (.bool false)) (step_move (by kernel_rfl) (Opd.of_base 70 rfl) rfl) (by kernel_rfl) (by decide) h ?_
  clear h
  intro a w h
  refine env_guard (i := 10) (d := 72) (g := 9) (dg := 71) (b := false) (k := .val (.bool ((Bl.char p0 l0).2.2))) (step_move (by kernel_rfl) (Opd.of_base 5 rfl) rfl) (by kernel_rfl) (by decide) (by kernel_rfl) (by decide) rfl h ?_
  clear h
  intro a w h
  refine env_guard (i := 11) (d := 73) (g := 9) (dg := 71) (b := false) (k := .val (.bool ((Bl.char p0 l0).2.2))) (step_move (by kernel_rfl) (Opd.of_base 8 rfl) rfl) (by kernel_rfl) (by decide) (by kernel_rfl) (by decide) rfl h ?_
  clear h
  intro a w h
  refine env_guard (i := 12) (d := 74) (g := 9) (dg := 71) (b := false) (k := .val (.bool false)) (step_ne_bool (by kernel_rfl) (Opd.of_base 72 rfl) (Opd.of_base 73 rfl) (by simp) rfl) (by kernel_rfl) (by decide) (by kernel_rfl) (by decide) rfl h ?_
  clear h
  intro a w h
  refine env_one (i := 13) (d := 75) (k := .val (.bool false)) (step_pick_no (x := .const (.bool true)) (by kernel_rfl) (Opd.of_base 71 rfl) (Opd.of_base 74 rfl) rfl) (by kernel_rfl) (by decide) h ?_
  clear h
  intro a w h
  exact hQ a w (h.keep [990, 1, 2, 5, 8, 75])
theorem lParts9a_region {Q : Exit → Act → World → Prop} (p0 : Pay) (l0 : Fo)  {w0 : World} {a : Act} {w : World} (h : Hold 137 [(990, .sat (gP 0 none)), (1, .ptrT p0 l0), (2, .val (.bool false)), (5, .val (.bool ((Bl.char p0 l0).2.2))), (8, .val (.bool ((Bl.char p0 l0).2.2)))] w0 a w)
    (hQ : ∀ a' w', Hold 137 [(990, .sat (gP 0 none)), (1, .ptrT p0 l0), (2, .val (.bool false)), (5, .val (.bool ((Bl.code p0 l0).2.2))), (8, .val (.bool ((Bl.char p0 l0).2.2))), (14, .ptrT (((Bl.code p0 l0).2.1).1) (((Bl.code p0 l0).2.1).2)), (13, .val (.int .i64 (Bl.code p0 l0).1))] w0 a' w' → Q .normal a' w') : (Code.region 9 lParts9Ops false).wp Try.prog Q a w := by
  refine region_seq (w0 := w) 10 (by kernel_rfl) ?_
  rw [show List.range 10 = [0, 1, 2, 3, 4, 5, 6, 7, 8, 9] from rfl]
  refine env_one (i := 0) (d := 77) (k := .term p0 l0) (step_load_term (by kernel_rfl) (Opd.of_base 1 rfl) rfl) (by kernel_rfl) (by decide) h ?_
  clear h
  intro a w h
  refine env_one (i := 1) (d := 78) (k := .sat (nT3 0 none (.int .i64 (Bl.code p0 l0).1) (((Bl.code p0 l0).2.1).1) (((Bl.code p0 l0).2.1).2) ((Bl.code p0 l0).2.2))) (step_bCode (g := 990) (by kernel_rfl) (Opd.of_base 77 rfl) (Opd.of_base 990 rfl) rfl) (by kernel_rfl) (by decide) h ?_
  clear h
  intro a w h
  refine env_one (i := 2) (d := 76) (k := .sat (nT3 0 none (.int .i64 (Bl.code p0 l0).1) (((Bl.code p0 l0).2.1).1) (((Bl.code p0 l0).2.1).2) ((Bl.code p0 l0).2.2))) (step_move (by kernel_rfl) (Opd.of_base 78 rfl) rfl) (by kernel_rfl) (by decide) h ?_
  clear h
  intro a w h
  refine env_one (i := 3) (d := 79) (k := .val (.int .i64 (Bl.code p0 l0).1)) (step_nT3_0 (by kernel_rfl) (Opd.of_base 76 rfl) rfl) (by kernel_rfl) (by decide) h ?_
  clear h
  intro a w h
  refine env_one (i := 4) (d := 80) (k := .sat (nT 0 none (((Bl.code p0 l0).2.1).1) (((Bl.code p0 l0).2.1).2))) (step_nT3_1 (by kernel_rfl) (Opd.of_base 76 rfl) rfl) (by kernel_rfl) (by decide) h ?_
  clear h
  intro a w h
  refine env_one (i := 5) (d := 81) (k := .val (.bool ((Bl.code p0 l0).2.2))) (step_nT3_2 (by kernel_rfl) (Opd.of_base 76 rfl) rfl) (by kernel_rfl) (by decide) h ?_
  clear h
  intro a w h
  have h := h.cast 80 rfl
  refine env_box3 (i := 6) (d := 14) (e := 13) (by kernel_rfl) (by decide) (by kernel_rfl) (by decide) (x := 79) rfl (by decide) (by decide) (by kernel_rfl) (by decide) (by decide) (s := 80) rfl h ?_
  clear h
  intro a w h
  refine env_one (i := 9) (d := 5) (k := .val (.bool ((Bl.code p0 l0).2.2))) (step_assign (by kernel_rfl) (Opd.of_base 81 rfl) rfl) (by kernel_rfl) (by decide) h ?_
  clear h
  intro a w h
  exact hQ a w (h.keep [990, 1, 2, 5, 8, 14, 13])
theorem lParts10a_region {Q : Exit → Act → World → Prop} (p0 : Pay) (l0 : Fo)  {w0 : World} {a : Act} {w : World} (h : Hold 137 [(990, .sat (gP 0 none)), (1, .ptrT p0 l0), (2, .val (.bool false)), (5, .val (.bool ((Bl.code p0 l0).2.2))), (8, .val (.bool ((Bl.char p0 l0).2.2))), (14, .ptrT (((Bl.code p0 l0).2.1).1) (((Bl.code p0 l0).2.1).2)), (13, .val (.int .i64 (Bl.code p0 l0).1))] w0 a w)
    (hQ : ∀ a' w', Hold 137 [(990, .sat (gP 0 none)), (1, .ptrT p0 l0), (2, .val (.bool false)), (5, .val (.bool ((Bl.code p0 l0).2.2))), (8, .val (.bool ((Bl.code p0 l0).2.2))), (14, .ptrT (((Bl.code p0 l0).2.1).1) (((Bl.code p0 l0).2.1).2)), (13, .val (.int .i64 (Bl.code p0 l0).1)), (16, .ptrT (((Bl.code p0 l0).2.1).1) (((Bl.code p0 l0).2.1).2)), (15, .val (.int .i64 (Bl.code p0 l0).1))] w0 a' w' → Q .normal a' w') : (Code.region 10 lParts10Ops false).wp Try.prog Q a w := by
  refine region_seq (w0 := w) 10 (by kernel_rfl) ?_
  rw [show List.range 10 = [0, 1, 2, 3, 4, 5, 6, 7, 8, 9] from rfl]
  refine env_one (i := 0) (d := 83) (k := .term p0 l0) (step_load_term (by kernel_rfl) (Opd.of_base 1 rfl) rfl) (by kernel_rfl) (by decide) h ?_
  clear h
  intro a w h
  refine env_one (i := 1) (d := 84) (k := .sat (nT3 0 none (.int .i64 (Bl.code p0 l0).1) (((Bl.code p0 l0).2.1).1) (((Bl.code p0 l0).2.1).2) ((Bl.code p0 l0).2.2))) (step_rCode (g := 990) (by kernel_rfl) (Opd.of_base 83 rfl) (Opd.of_base 990 rfl) rfl) (by kernel_rfl) (by decide) h ?_
  clear h
  intro a w h
  refine env_one (i := 2) (d := 82) (k := .sat (nT3 0 none (.int .i64 (Bl.code p0 l0).1) (((Bl.code p0 l0).2.1).1) (((Bl.code p0 l0).2.1).2) ((Bl.code p0 l0).2.2))) (step_move (by kernel_rfl) (Opd.of_base 84 rfl) rfl) (by kernel_rfl) (by decide) h ?_
  clear h
  intro a w h
  refine env_one (i := 3) (d := 85) (k := .val (.int .i64 (Bl.code p0 l0).1)) (step_nT3_0 (by kernel_rfl) (Opd.of_base 82 rfl) rfl) (by kernel_rfl) (by decide) h ?_
  clear h
  intro a w h
  refine env_one (i := 4) (d := 86) (k := .sat (nT 0 none (((Bl.code p0 l0).2.1).1) (((Bl.code p0 l0).2.1).2))) (step_nT3_1 (by kernel_rfl) (Opd.of_base 82 rfl) rfl) (by kernel_rfl) (by decide) h ?_
  clear h
  intro a w h
  refine env_one (i := 5) (d := 87) (k := .val (.bool ((Bl.code p0 l0).2.2))) (step_nT3_2 (by kernel_rfl) (Opd.of_base 82 rfl) rfl) (by kernel_rfl) (by decide) h ?_
  clear h
  intro a w h
  have h := h.cast 86 rfl
  refine env_box3 (i := 6) (d := 16) (e := 15) (by kernel_rfl) (by decide) (by kernel_rfl) (by decide) (x := 85) rfl (by decide) (by decide) (by kernel_rfl) (by decide) (by decide) (s := 86) rfl h ?_
  clear h
  intro a w h
  refine env_one (i := 9) (d := 8) (k := .val (.bool ((Bl.code p0 l0).2.2))) (step_assign (by kernel_rfl) (Opd.of_base 87 rfl) rfl) (by kernel_rfl) (by decide) h ?_
  clear h
  intro a w h
  exact hQ a w (h.keep [990, 1, 2, 5, 8, 14, 13, 16, 15])
theorem lParts11a_region {Q : Exit → Act → World → Prop} (p0 : Pay) (l0 : Fo)  {w0 : World} {a : Act} {w : World} (h : Hold 137 [(990, .sat (gP 0 none)), (1, .ptrT p0 l0), (2, .val (.bool false)), (5, .val (.bool ((Bl.code p0 l0).2.2))), (8, .val (.bool ((Bl.code p0 l0).2.2))), (14, .ptrT (((Bl.code p0 l0).2.1).1) (((Bl.code p0 l0).2.1).2)), (13, .val (.int .i64 (Bl.code p0 l0).1)), (16, .ptrT (((Bl.code p0 l0).2.1).1) (((Bl.code p0 l0).2.1).2)), (15, .val (.int .i64 (Bl.code p0 l0).1))] w0 a w)
    (hQ : ∀ a' w', Hold 137 [(990, .sat (gP 0 none)), (1, .ptrT p0 l0), (2, .val (.bool false)), (5, .val (.bool ((Bl.code p0 l0).2.2))), (8, .val (.bool ((Bl.code p0 l0).2.2))), (101, .val (.bool false))] w0 a' w' → Q .normal a' w') : (Code.region 11 lParts11Ops false).wp Try.prog Q a w := by
  refine region_seq (w0 := w) 14 (by kernel_rfl) ?_
  rw [show List.range 14 = [0, 1, 2, 3, 4, 5, 6, 7, 8, 9, 10, 11, 12, 13] from rfl]
  refine env_one (i := 0) (d := 88) (k := .val (.int .i64 (Bl.code p0 l0).1)) (step_move (by kernel_rfl) (Opd.of_base 13 rfl) rfl) (by kernel_rfl) (by decide) h ?_
  clear h
  intro a w h
  refine env_one (i := 1) (d := 89) (k := .val (.int .i64 (Bl.code p0 l0).1)) (step_move (by kernel_rfl) (Opd.of_base 15 rfl) rfl) (by kernel_rfl) (by decide) h ?_
  clear h
  intro a w h
  refine env_one (i := 2) (d := 90) (k := .val (.bool false)) (step_ne_int (m := (Bl.code p0 l0).1) (n := (Bl.code p0 l0).1) (by kernel_rfl) (Opd.of_base 88 rfl) (Opd.of_base 89 rfl) (by simp) rfl) (by kernel_rfl) (by decide) h ?_
  clear h
  intro a w h
  refine env_one (i := 3) (d := 91) (k := .val (.bool false)) (step_move (by kernel_rfl) (Opd.of_base 90 rfl) rfl) (by kernel_rfl) (by decide) h ?_
  clear h
  intro a w h
  refine env_guard (i := 4) (d := 92) (g := 3) (dg := 91) (b := false) (k := .term (((Bl.code p0 l0).2.1).1) (((Bl.code p0 l0).2.1).2)) (step_load_term (by kernel_rfl) (Opd.of_base 14 rfl) rfl) (by kernel_rfl) (by decide) (by kernel_rfl) (by decide) rfl h ?_
  clear h
  intro a w h
  refine env_guard (i := 5) (d := 93) (g := 3) (dg := 91) (b := false) (k := .term (((Bl.code p0 l0).2.1).1) (((Bl.code p0 l0).2.1).2)) (step_load_term (by kernel_rfl) (Opd.of_base 16 rfl) rfl) (by kernel_rfl) (by decide) (by kernel_rfl) (by decide) rfl h ?_
  clear h
  intro a w h
  refine env_guard (i := 6) (d := 94) (g := 3) (dg := 91) (b := false) (k := .val (.bool true)) (step_lsame (by kernel_rfl) (Opd.of_base 92 rfl) (Opd.of_base 93 rfl) (by rw [same_self (Bl.code_valid p0 l0)]; rfl)) (by kernel_rfl) (by decide) (by kernel_rfl) (by decide) rfl h ?_
  clear h
  intro a w h
  refine env_guard (i := 7) (d := 95) (g := 3) (dg := 91) (b := false) (k := .val (.bool false)) (step_not (by kernel_rfl) (Opd.of_base 94 rfl) rfl) (by kernel_rfl) (by decide) (by kernel_rfl) (by decide) rfl h ?_
  clear h
  intro a w h
  refine env_one (i := 8) (d := 96) (k := .val (.bool false)) (step_pick_no (x := .const (.bool true)) (by kernel_rfl) (Opd.of_base 91 rfl) (Opd.of_base 95 rfl) rfl) (by kernel_rfl) (by decide) h ?_
  clear h
  intro a w h
  refine env_one (i := 9) (d := 97) (k := .val (.bool false)) (step_move (by kernel_rfl) (Opd.of_base 96 rfl) rfl) (by kernel_rfl) (by decide) h ?_
  clear h
  intro a w h
  refine env_guard (i := 10) (d := 98) (g := 9) (dg := 97) (b := false) (k := .val (.bool ((Bl.code p0 l0).2.2))) (step_move (by kernel_rfl) (Opd.of_base 5 rfl) rfl) (by kernel_rfl) (by decide) (by kernel_rfl) (by decide) rfl h ?_
  clear h
  intro a w h
  refine env_guard (i := 11) (d := 99) (g := 9) (dg := 97) (b := false) (k := .val (.bool ((Bl.code p0 l0).2.2))) (step_move (by kernel_rfl) (Opd.of_base 8 rfl) rfl) (by kernel_rfl) (by decide) (by kernel_rfl) (by decide) rfl h ?_
  clear h
  intro a w h
  refine env_guard (i := 12) (d := 100) (g := 9) (dg := 97) (b := false) (k := .val (.bool false)) (step_ne_bool (by kernel_rfl) (Opd.of_base 98 rfl) (Opd.of_base 99 rfl) (by simp) rfl) (by kernel_rfl) (by decide) (by kernel_rfl) (by decide) rfl h ?_
  clear h
  intro a w h
  refine env_one (i := 13) (d := 101) (k := .val (.bool false)) (step_pick_no (x := .const (.bool true)) (by kernel_rfl) (Opd.of_base 97 rfl) (Opd.of_base 100 rfl) rfl) (by kernel_rfl) (by decide) h ?_
  clear h
  intro a w h
  exact hQ a w (h.keep [990, 1, 2, 5, 8, 101])
theorem lParts13a_region {Q : Exit → Act → World → Prop} (p0 : Pay) (l0 : Fo)  {w0 : World} {a : Act} {w : World} (h : Hold 137 [(990, .sat (gP 0 none)), (1, .ptrT p0 l0), (2, .val (.bool false)), (5, .val (.bool ((Bl.code p0 l0).2.2))), (8, .val (.bool ((Bl.code p0 l0).2.2)))] w0 a w)
    (hQ : ∀ a' w', Hold 137 [(990, .sat (gP 0 none)), (1, .ptrT p0 l0), (2, .val (.bool false)), (5, .val (.bool ((Bl.ind p0 l0).2.2.2))), (8, .val (.bool ((Bl.code p0 l0).2.2))), (19, .ptrT (((Bl.ind p0 l0).2.2.1).1) (((Bl.ind p0 l0).2.2.1).2)), (17, .val (.string (Bl.ind p0 l0).1)), (18, .val (.int .i64 (Bl.ind p0 l0).2.1))] w0 a' w' → Q .normal a' w') : (Code.region 13 lParts13Ops false).wp Try.prog Q a w := by
  refine region_seq (w0 := w) 12 (by kernel_rfl) ?_
  rw [show List.range 12 = [0, 1, 2, 3, 4, 5, 6, 7, 8, 9, 10, 11] from rfl]
  refine env_one (i := 0) (d := 103) (k := .term p0 l0) (step_load_term (by kernel_rfl) (Opd.of_base 1 rfl) rfl) (by kernel_rfl) (by decide) h ?_
  clear h
  intro a w h
  refine env_one (i := 1) (d := 104) (k := .sat (nT4 0 none (.string (Bl.ind p0 l0).1) (.int .i64 (Bl.ind p0 l0).2.1) (((Bl.ind p0 l0).2.2.1).1) (((Bl.ind p0 l0).2.2.1).2) ((Bl.ind p0 l0).2.2.2))) (step_bInd (g := 990) (by kernel_rfl) (Opd.of_base 103 rfl) (Opd.of_base 990 rfl) rfl) (by kernel_rfl) (by decide) h ?_
  clear h
  intro a w h
  refine env_one (i := 2) (d := 102) (k := .sat (nT4 0 none (.string (Bl.ind p0 l0).1) (.int .i64 (Bl.ind p0 l0).2.1) (((Bl.ind p0 l0).2.2.1).1) (((Bl.ind p0 l0).2.2.1).2) ((Bl.ind p0 l0).2.2.2))) (step_move (by kernel_rfl) (Opd.of_base 104 rfl) rfl) (by kernel_rfl) (by decide) h ?_
  clear h
  intro a w h
  refine env_one (i := 3) (d := 105) (k := .val (.string (Bl.ind p0 l0).1)) (step_nT4_0 (by kernel_rfl) (Opd.of_base 102 rfl) rfl) (by kernel_rfl) (by decide) h ?_
  clear h
  intro a w h
  refine env_one (i := 4) (d := 106) (k := .val (.int .i64 (Bl.ind p0 l0).2.1)) (step_nT4_1 (by kernel_rfl) (Opd.of_base 102 rfl) rfl) (by kernel_rfl) (by decide) h ?_
  clear h
  intro a w h
  refine env_one (i := 5) (d := 107) (k := .sat (nT 0 none (((Bl.ind p0 l0).2.2.1).1) (((Bl.ind p0 l0).2.2.1).2))) (step_nT4_2 (by kernel_rfl) (Opd.of_base 102 rfl) rfl) (by kernel_rfl) (by decide) h ?_
  clear h
  intro a w h
  refine env_one (i := 6) (d := 108) (k := .val (.bool ((Bl.ind p0 l0).2.2.2))) (step_nT4_3 (by kernel_rfl) (Opd.of_base 102 rfl) rfl) (by kernel_rfl) (by decide) h ?_
  clear h
  intro a w h
  have h := h.cast 107 rfl
  refine env_box5 (i := 7) (d := 19) (e := 17) (e2 := 18) (by kernel_rfl) (by decide) (by kernel_rfl) (by decide) (x := 105) rfl (by decide) (by decide) (by kernel_rfl) (by decide) (x2 := 106) rfl (by decide) (by decide) (by decide) (by kernel_rfl) (by decide) (by decide) (by decide) (s := 107) rfl h ?_
  clear h
  intro a w h
  refine env_one (i := 11) (d := 5) (k := .val (.bool ((Bl.ind p0 l0).2.2.2))) (step_assign (by kernel_rfl) (Opd.of_base 108 rfl) rfl) (by kernel_rfl) (by decide) h ?_
  clear h
  intro a w h
  exact hQ a w (h.keep [990, 1, 2, 5, 8, 19, 17, 18])
theorem lParts14a_region {Q : Exit → Act → World → Prop} (p0 : Pay) (l0 : Fo)  {w0 : World} {a : Act} {w : World} (h : Hold 137 [(990, .sat (gP 0 none)), (1, .ptrT p0 l0), (2, .val (.bool false)), (5, .val (.bool ((Bl.ind p0 l0).2.2.2))), (8, .val (.bool ((Bl.code p0 l0).2.2))), (19, .ptrT (((Bl.ind p0 l0).2.2.1).1) (((Bl.ind p0 l0).2.2.1).2)), (17, .val (.string (Bl.ind p0 l0).1)), (18, .val (.int .i64 (Bl.ind p0 l0).2.1))] w0 a w)
    (hQ : ∀ a' w', Hold 137 [(990, .sat (gP 0 none)), (2, .val (.bool false)), (5, .val (.bool ((Bl.ind p0 l0).2.2.2))), (8, .val (.bool ((Bl.ind p0 l0).2.2.2))), (19, .ptrT (((Bl.ind p0 l0).2.2.1).1) (((Bl.ind p0 l0).2.2.1).2)), (17, .val (.string (Bl.ind p0 l0).1)), (18, .val (.int .i64 (Bl.ind p0 l0).2.1)), (22, .ptrT (((Bl.ind p0 l0).2.2.1).1) (((Bl.ind p0 l0).2.2.1).2)), (20, .val (.string (Bl.ind p0 l0).1)), (21, .val (.int .i64 (Bl.ind p0 l0).2.1))] w0 a' w' → Q .normal a' w') : (Code.region 14 lParts14Ops false).wp Try.prog Q a w := by
  refine region_seq (w0 := w) 12 (by kernel_rfl) ?_
  rw [show List.range 12 = [0, 1, 2, 3, 4, 5, 6, 7, 8, 9, 10, 11] from rfl]
  refine env_one (i := 0) (d := 110) (k := .term p0 l0) (step_load_term (by kernel_rfl) (Opd.of_base 1 rfl) rfl) (by kernel_rfl) (by decide) h ?_
  clear h
  intro a w h
  refine env_one (i := 1) (d := 111) (k := .sat (nT4 0 none (.string (Bl.ind p0 l0).1) (.int .i64 (Bl.ind p0 l0).2.1) (((Bl.ind p0 l0).2.2.1).1) (((Bl.ind p0 l0).2.2.1).2) ((Bl.ind p0 l0).2.2.2))) (step_rInd (g := 990) (by kernel_rfl) (Opd.of_base 110 rfl) (Opd.of_base 990 rfl) rfl) (by kernel_rfl) (by decide) h ?_
  clear h
  intro a w h
  refine env_one (i := 2) (d := 109) (k := .sat (nT4 0 none (.string (Bl.ind p0 l0).1) (.int .i64 (Bl.ind p0 l0).2.1) (((Bl.ind p0 l0).2.2.1).1) (((Bl.ind p0 l0).2.2.1).2) ((Bl.ind p0 l0).2.2.2))) (step_move (by kernel_rfl) (Opd.of_base 111 rfl) rfl) (by kernel_rfl) (by decide) h ?_
  clear h
  intro a w h
  refine env_one (i := 3) (d := 112) (k := .val (.string (Bl.ind p0 l0).1)) (step_nT4_0 (by kernel_rfl) (Opd.of_base 109 rfl) rfl) (by kernel_rfl) (by decide) h ?_
  clear h
  intro a w h
  refine env_one (i := 4) (d := 113) (k := .val (.int .i64 (Bl.ind p0 l0).2.1)) (step_nT4_1 (by kernel_rfl) (Opd.of_base 109 rfl) rfl) (by kernel_rfl) (by decide) h ?_
  clear h
  intro a w h
  refine env_one (i := 5) (d := 114) (k := .sat (nT 0 none (((Bl.ind p0 l0).2.2.1).1) (((Bl.ind p0 l0).2.2.1).2))) (step_nT4_2 (by kernel_rfl) (Opd.of_base 109 rfl) rfl) (by kernel_rfl) (by decide) h ?_
  clear h
  intro a w h
  refine env_one (i := 6) (d := 115) (k := .val (.bool ((Bl.ind p0 l0).2.2.2))) (step_nT4_3 (by kernel_rfl) (Opd.of_base 109 rfl) rfl) (by kernel_rfl) (by decide) h ?_
  clear h
  intro a w h
  have h := h.cast 114 rfl
  refine env_box5 (i := 7) (d := 22) (e := 20) (e2 := 21) (by kernel_rfl) (by decide) (by kernel_rfl) (by decide) (x := 112) rfl (by decide) (by decide) (by kernel_rfl) (by decide) (x2 := 113) rfl (by decide) (by decide) (by decide) (by kernel_rfl) (by decide) (by decide) (by decide) (s := 114) rfl h ?_
  clear h
  intro a w h
  refine env_one (i := 11) (d := 8) (k := .val (.bool ((Bl.ind p0 l0).2.2.2))) (step_assign (by kernel_rfl) (Opd.of_base 115 rfl) rfl) (by kernel_rfl) (by decide) h ?_
  clear h
  intro a w h
  exact hQ a w (h.keep [990, 2, 5, 8, 19, 17, 18, 22, 20, 21])
theorem lParts15a_region {Q : Exit → Act → World → Prop} (p0 : Pay) (l0 : Fo)  {w0 : World} {a : Act} {w : World} (h : Hold 137 [(990, .sat (gP 0 none)), (2, .val (.bool false)), (5, .val (.bool ((Bl.ind p0 l0).2.2.2))), (8, .val (.bool ((Bl.ind p0 l0).2.2.2))), (19, .ptrT (((Bl.ind p0 l0).2.2.1).1) (((Bl.ind p0 l0).2.2.1).2)), (17, .val (.string (Bl.ind p0 l0).1)), (18, .val (.int .i64 (Bl.ind p0 l0).2.1)), (22, .ptrT (((Bl.ind p0 l0).2.2.1).1) (((Bl.ind p0 l0).2.2.1).2)), (20, .val (.string (Bl.ind p0 l0).1)), (21, .val (.int .i64 (Bl.ind p0 l0).2.1))] w0 a w)
    (hQ : ∀ a' w', Hold 137 [(990, .sat (gP 0 none)), (2, .val (.bool true))] w0 a' w' → Q .normal a' w') : (Code.region 15 lParts15Ops false).wp Try.prog Q a w := by
  refine region_seq (w0 := w) 22 (by kernel_rfl) ?_
  rw [show List.range 22 = [0, 1, 2, 3, 4, 5, 6, 7, 8, 9, 10, 11, 12, 13, 14, 15, 16, 17, 18, 19, 20, 21] from rfl]
  refine env_one (i := 0) (d := 116) (k := .val (.string (Bl.ind p0 l0).1)) (step_move (by kernel_rfl) (Opd.of_base 17 rfl) rfl) (by kernel_rfl) (by decide) h ?_
  clear h
  intro a w h
  refine env_one (i := 1) (d := 117) (k := .val (.string (Bl.ind p0 l0).1)) (step_move (by kernel_rfl) (Opd.of_base 20 rfl) rfl) (by kernel_rfl) (by decide) h ?_
  clear h
  intro a w h
  refine env_one (i := 2) (d := 118) (k := .val (.bool true)) (step_eqb_str (s := (Bl.ind p0 l0).1) (t := (Bl.ind p0 l0).1) (by kernel_rfl) (Opd.of_base 116 rfl) (Opd.of_base 117 rfl) (by simp) rfl) (by kernel_rfl) (by decide) h ?_
  clear h
  intro a w h
  refine env_one (i := 3) (d := 119) (k := .val (.bool true)) (step_move (by kernel_rfl) (Opd.of_base 118 rfl) rfl) (by kernel_rfl) (by decide) h ?_
  clear h
  intro a w h
  refine env_guard (i := 4) (d := 120) (g := 3) (dg := 119) (b := true) (k := .val (.int .i64 (Bl.ind p0 l0).2.1)) (step_move (by kernel_rfl) (Opd.of_base 18 rfl) rfl) (by kernel_rfl) (by decide) (by kernel_rfl) (by decide) rfl h ?_
  clear h
  intro a w h
  refine env_guard (i := 5) (d := 121) (g := 3) (dg := 119) (b := true) (k := .val (.int .i64 (Bl.ind p0 l0).2.1)) (step_move (by kernel_rfl) (Opd.of_base 21 rfl) rfl) (by kernel_rfl) (by decide) (by kernel_rfl) (by decide) rfl h ?_
  clear h
  intro a w h
  refine env_guard (i := 6) (d := 122) (g := 3) (dg := 119) (b := true) (k := .val (.bool true)) (step_eqs_int (by kernel_rfl) (Opd.of_base 120 rfl) (Opd.of_base 121 rfl) rfl) (by kernel_rfl) (by decide) (by kernel_rfl) (by decide) rfl h ?_
  clear h
  intro a w h
  refine env_one (i := 7) (d := 123) (k := .val (.bool true)) (step_pick_yes (y := .const (.bool false)) (by kernel_rfl) (Opd.of_base 119 rfl) (Opd.of_base 122 rfl) rfl) (by kernel_rfl) (by decide) h ?_
  clear h
  intro a w h
  refine env_one (i := 8) (d := 124) (k := .val (.bool true)) (step_move (by kernel_rfl) (Opd.of_base 123 rfl) rfl) (by kernel_rfl) (by decide) h ?_
  clear h
  intro a w h
  refine env_guard (i := 9) (d := 125) (g := 8) (dg := 124) (b := true) (k := .term (((Bl.ind p0 l0).2.2.1).1) (((Bl.ind p0 l0).2.2.1).2)) (step_load_term (by kernel_rfl) (Opd.of_base 19 rfl) rfl) (by kernel_rfl) (by decide) (by kernel_rfl) (by decide) rfl h ?_
  clear h
  intro a w h
  refine env_guard (i := 10) (d := 126) (g := 8) (dg := 124) (b := true) (k := .term (((Bl.ind p0 l0).2.2.1).1) (((Bl.ind p0 l0).2.2.1).2)) (step_load_term (by kernel_rfl) (Opd.of_base 22 rfl) rfl) (by kernel_rfl) (by decide) (by kernel_rfl) (by decide) rfl h ?_
  clear h
  intro a w h
  refine env_guard (i := 11) (d := 127) (g := 8) (dg := 124) (b := true) (k := .val (.bool true)) (step_lsame (by kernel_rfl) (Opd.of_base 125 rfl) (Opd.of_base 126 rfl) (by rw [same_self (Bl.ind_valid p0 l0)]; rfl)) (by kernel_rfl) (by decide) (by kernel_rfl) (by decide) rfl h ?_
  clear h
  intro a w h
  refine env_one (i := 12) (d := 128) (k := .val (.bool true)) (step_pick_yes (y := .const (.bool false)) (by kernel_rfl) (Opd.of_base 124 rfl) (Opd.of_base 127 rfl) rfl) (by kernel_rfl) (by decide) h ?_
  clear h
  intro a w h
  refine env_one (i := 13) (d := 129) (k := .val (.bool true)) (step_move (by kernel_rfl) (Opd.of_base 128 rfl) rfl) (by kernel_rfl) (by decide) h ?_
  clear h
  intro a w h
  refine env_guard (i := 14) (d := 130) (g := 13) (dg := 129) (b := true) (k := .val (.bool ((Bl.ind p0 l0).2.2.2))) (step_move (by kernel_rfl) (Opd.of_base 5 rfl) rfl) (by kernel_rfl) (by decide) (by kernel_rfl) (by decide) rfl h ?_
  clear h
  intro a w h
  refine env_guard (i := 15) (d := 131) (g := 13) (dg := 129) (b := true) (k := .val (.bool ((Bl.ind p0 l0).2.2.2))) (step_move (by kernel_rfl) (Opd.of_base 8 rfl) rfl) (by kernel_rfl) (by decide) (by kernel_rfl) (by decide) rfl h ?_
  clear h
  intro a w h
  refine env_guard (i := 16) (d := 132) (g := 13) (dg := 129) (b := true) (k := .val (.bool true)) (step_eq_bool (by kernel_rfl) (Opd.of_base 130 rfl) (Opd.of_base 131 rfl) rfl) (by kernel_rfl) (by decide) (by kernel_rfl) (by decide) rfl h ?_
  clear h
  intro a w h
  refine env_one (i := 17) (d := 133) (k := .val (.bool true)) (step_pick_yes (y := .const (.bool false)) (by kernel_rfl) (Opd.of_base 129 rfl) (Opd.of_base 132 rfl) rfl) (by kernel_rfl) (by decide) h ?_
  clear h
  intro a w h
  refine env_one (i := 18) (d := 134) (k := .val (.bool true)) (step_move (by kernel_rfl) (Opd.of_base 133 rfl) rfl) (by kernel_rfl) (by decide) h ?_
  clear h
  intro a w h
  refine env_guard (i := 19) (d := 135) (g := 18) (dg := 134) (b := true) (k := .val (.bool true)) (step_awake (by kernel_rfl)  rfl) (by kernel_rfl) (by decide) (by kernel_rfl) (by decide) rfl h ?_
  clear h
  intro a w h
  refine env_one (i := 20) (d := 136) (k := .val (.bool true)) (step_pick_yes (y := .const (.bool false)) (by kernel_rfl) (Opd.of_base 134 rfl) (Opd.of_base 135 rfl) rfl) (by kernel_rfl) (by decide) h ?_
  clear h
  intro a w h
  refine env_one (i := 21) (d := 2) (k := .val (.bool true)) (step_assign (by kernel_rfl) (Opd.of_base 136 rfl) rfl) (by kernel_rfl) (by decide) h ?_
  clear h
  intro a w h
  exact hQ a w (h.keep [990, 2])
set_option maxHeartbeats 1000000 in
theorem lParts_any (p0 : Pay) (l0 : Fo) (A0 : Option Addr) (c0 : Nat) (B : Nat) (w : World) (hA0 : ArgsB w B A0 (Tm.len l0) l0) (hB : B ≤ w.heap.size)  : Calls Try.prog 6 #[tv p0 A0 (Tm.len l0) c0] w (fun e w' => e = .returned (.bool true) ∧ Below w.heap.size w w') := by
  refine calls_of_wp Try.func6 lParts_body ?_
  obtain ⟨v0, hv0⟩ : ∃ v : Value, v = tv p0 A0 (Tm.len l0) c0 := ⟨_, rfl⟩
  rw [← hv0]
  have hk0 : (Kd.term p0 l0).R v0 w := by rw [hv0]; exact ⟨A0, c0, rfl, hA0.up hB⟩
  have hsN : (#[v0] ++ Array.replicate (Try.f6.ntmps - #[v0].size) undef : Array Value).size = 137 := by kernel_rfl
  have gs0 : (#[v0] ++ Array.replicate (Try.f6.ntmps - #[v0].size) undef : Array Value).getD 0 undef = v0 := by kernel_rfl
  generalize (#[v0] ++ Array.replicate (Try.f6.ntmps - #[v0].size) undef : Array Value) = tm at hsN gs0 ⊢
  obtain ⟨a, ha0⟩ : ∃ a : Act, a = ⟨tm, []⟩ := ⟨_, rfl⟩
  have h : Hold 137 [(0, .term p0 l0), (990, .sat (gP 0 none))] w ⟨tm, []⟩ w := ⟨hsN, rfl, Below.refl _ _, (slots_cons 0 (by rw [gs0]; exact hk0) (slots_cons 990 (k0 := .sat (gP 0 none)) ⟨Nat.zero_le _, fun r e => by cases e⟩ slots_nil))⟩
  refine wp_seq ?_
  refine lParts0a_region p0 l0  h ?_
  intro a w1 h
  show Code.wp _ _ _ a w1
  refine wp_seq ?_
  refine lParts1a_region p0 l0  h ?_
  intro a w1 h
  show Code.wp _ _ _ a w1
  refine wp_seq ?_
  refine lParts2a_region p0 l0  h ?_
  intro a w1 h
  show Code.wp _ _ _ a w1
  refine wp_seq ?_
  refine wp_seq ?_
  refine lParts3a_region p0 l0  h ?_
  intro a w1 h
  show Code.wp _ _ _ a w1
  refine env_cond (b := false) rfl h ?_
  refine wp_skip ?_
  have h := h.keep [990, 1, 2, 5, 8]
  show Code.wp _ _ _ a w1
  refine wp_seq ?_
  refine lParts5a_region p0 l0  h ?_
  intro a w1 h
  show Code.wp _ _ _ a w1
  refine wp_seq ?_
  refine lParts6a_region p0 l0  h ?_
  intro a w1 h
  show Code.wp _ _ _ a w1
  refine wp_seq ?_
  refine wp_seq ?_
  refine lParts7a_region p0 l0  h ?_
  intro a w1 h
  show Code.wp _ _ _ a w1
  refine env_cond (b := false) rfl h ?_
  refine wp_skip ?_
  have h := h.keep [990, 1, 2, 5, 8]
  show Code.wp _ _ _ a w1
  refine wp_seq ?_
  refine lParts9a_region p0 l0  h ?_
  intro a w1 h
  show Code.wp _ _ _ a w1
  refine wp_seq ?_
  refine lParts10a_region p0 l0  h ?_
  intro a w1 h
  show Code.wp _ _ _ a w1
  refine wp_seq ?_
  refine wp_seq ?_
  refine lParts11a_region p0 l0  h ?_
  intro a w1 h
  show Code.wp _ _ _ a w1
  refine env_cond (b := false) rfl h ?_
  refine wp_skip ?_
  have h := h.keep [990, 1, 2, 5, 8]
  show Code.wp _ _ _ a w1
  refine wp_seq ?_
  refine lParts13a_region p0 l0  h ?_
  intro a w1 h
  show Code.wp _ _ _ a w1
  refine wp_seq ?_
  refine lParts14a_region p0 l0  h ?_
  intro a w1 h
  show Code.wp _ _ _ a w1
  refine wp_seq ?_
  refine lParts15a_region p0 l0  h ?_
  intro a w1 h
  show Code.wp _ _ _ a w1
  refine wp_ret ?_
  (try simp only [then_ret, block_ret])
  exact law_out rfl (h.get 2 rfl) h.defers ⟨rfl, h.world⟩
end Go.Proofs.Ytapcnehpechkpaa
