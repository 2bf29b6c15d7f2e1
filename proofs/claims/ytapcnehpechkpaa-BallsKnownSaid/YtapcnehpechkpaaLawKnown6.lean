/-
  The statement BallsKnown, as its function.
-/
import Derived.Test.YtapcnehpechkpaaKnownA
import Derived.Test.YtapcnehpechkpaaAwake6
namespace Go.Proofs.Ytapcnehpechkpaa
set_option linter.unusedVariables false
set_option linter.unusedSimpArgs false
set_option maxRecDepth 100000
open Go.RowKit
section
variable {ops : Array Oper} {Q : Exit → Act → World → Prop} {E : Nat → Kd} {D : Nat → Nat} {base : Nat → Option Kd} {N : Nat}
theorem Opd.fn {i : Nat} (f : Nat) : Opd ops E D base N i (.func f) (.val (.func (.func f) #[] #[])) := fun _ _ _ => rfl
theorem step_l59v {i n g t : Nat} {G : Option Nat} {x : Operand} {s0 : Int} (hs : s0 ≤ 100000) (hop : (ops[i]?).map (·.op) = some (.call { callee := .value (.tmp t), args := #[x], argTypes := #[3] })) (ht : Opd ops E D base N i (.tmp t) (.val (.func (.func 59) #[] #[]))) (hx : Opd ops E D base N i x (.val (.int .i64 s0))) (hg : Opd ops E D base N i (.tmp g) (.sat (gP n G))) (hE : E i = .sat (nT n G (Bl.listT s0.toNat).1 (Bl.listT s0.toNat).2)) : Step Try.prog ops Q E D base N i :=
  step_callv hop ht (fun _ _ => by kernel_rfl) fun a w h => by
    have e : a.eval x = .int .i64 s0 := hx a w h
    rw [show ((#[x] : Array Operand).map a.eval ++ #[]) = #[.int .i64 s0] by rw [← e]; simp]
    exact (l59_any s0 w hs).mono fun e w' ⟨A, c, he, ha, hb⟩ => ⟨_, he, by rw [hE]; exact ⟨A, c, rfl, ha.mono fun b hb' => ns_new (hg a w h) hb'.1 hb'.2⟩, hb⟩
end
def knF0 : Fo := (.node (2, 0, (⟨#[108, 105, 115, 116]⟩)) .nil (.node (2, 0, (⟨#[46, 46, 46]⟩)) .nil .nil))
def knF1 : Fo := (.node (2, 0, (⟨#[108, 105, 115, 116]⟩)) .nil (.node ((Bl.listT (997 : Int).toNat).1) ((Bl.listT (997 : Int).toNat).2) .nil))
def knF2 : Fo := (.node (2, 0, (Bl.kstr 100)) .nil (.node (0, 0, ByteArray.empty) .nil .nil))
def knF3 : Fo := (.node (1, 0, ByteArray.empty) .nil .nil)
def knF4 : Fo := (.node (2, 0, ⟨#[]⟩) .nil .nil)
def knF5 : Fo := (.node (2, 0, ⟨#[97]⟩) .nil .nil)
def knF6 : Fo := (.node (2, 0, ⟨#[98]⟩) .nil (.node (2, 0, ⟨#[99]⟩) .nil .nil))
def knF7 : Fo := (.node (2, 0, ⟨#[97]⟩) .nil (.node (3, 0, ⟨#[46]⟩) knF6 .nil))
def knF8 : Fo := (.node (1, 1, ByteArray.empty) .nil (.node (1, 2, ByteArray.empty) .nil .nil))
def knF9 : Fo := (.node (2, 0, ⟨#[102]⟩) .nil (.node (1, 9, ByteArray.empty) .nil .nil))
def knF10 : Fo := (.node (2, 0, (⟨#[105, 110, 116, 101, 103, 101, 114]⟩)) .nil (.node (2, 0, ⟨#[97]⟩) .nil .nil))
def knF11 : Fo := (.node (2, 0, (⟨#[99, 104, 97, 114, 97, 99, 116, 101, 114]⟩)) .nil (.node (2, 0, ⟨#[]⟩) .nil .nil))
def knF12 : Fo := (.node (2, 0, (⟨#[108, 105, 115, 116]⟩)) .nil (.node (3, 0, ⟨#[46]⟩) knF7 .nil))
def knF13 : Fo := (.node (2, 0, (⟨#[97, 116, 111, 109]⟩)) .nil (.node (1, 1, ByteArray.empty) .nil .nil))
def knF14 : Fo := (.node (2, 0, (⟨#[109, 97, 120, 95, 97, 114, 105, 116, 121]⟩)) .nil .nil)
noncomputable def lKnown0Ops : Array Oper := ((Try.f11.body).bind (findReg 0)).getD #[]
noncomputable def lKnown1Ops : Array Oper := ((Try.f11.body).bind (findReg 1)).getD #[]
noncomputable def lKnown2Ops : Array Oper := ((Try.f11.body).bind (findReg 2)).getD #[]
noncomputable def lKnown3Ops : Array Oper := ((Try.f11.body).bind (findReg 3)).getD #[]
noncomputable def lKnown4Ops : Array Oper := ((Try.f11.body).bind (findReg 4)).getD #[]
noncomputable def lKnown5Ops : Array Oper := ((Try.f11.body).bind (findReg 5)).getD #[]
noncomputable def lKnown6Ops : Array Oper := ((Try.f11.body).bind (findReg 6)).getD #[]
noncomputable def lKnown7Ops : Array Oper := ((Try.f11.body).bind (findReg 7)).getD #[]
noncomputable def lKnown8Ops : Array Oper := ((Try.f11.body).bind (findReg 8)).getD #[]
noncomputable def lKnown9Ops : Array Oper := ((Try.f11.body).bind (findReg 9)).getD #[]
noncomputable def lKnown10Ops : Array Oper := ((Try.f11.body).bind (findReg 10)).getD #[]
noncomputable def lKnown11Ops : Array Oper := ((Try.f11.body).bind (findReg 11)).getD #[]
noncomputable def lKnown12Ops : Array Oper := ((Try.f11.body).bind (findReg 12)).getD #[]
noncomputable def lKnown13Ops : Array Oper := ((Try.f11.body).bind (findReg 13)).getD #[]
noncomputable def lKnown14Ops : Array Oper := ((Try.f11.body).bind (findReg 14)).getD #[]
noncomputable def lKnown15Ops : Array Oper := ((Try.f11.body).bind (findReg 15)).getD #[]
noncomputable def lKnown16Ops : Array Oper := ((Try.f11.body).bind (findReg 16)).getD #[]
noncomputable def lKnown17Ops : Array Oper := ((Try.f11.body).bind (findReg 17)).getD #[]
noncomputable def lKnown18Ops : Array Oper := ((Try.f11.body).bind (findReg 18)).getD #[]
noncomputable def lKnown19Ops : Array Oper := ((Try.f11.body).bind (findReg 19)).getD #[]
theorem lKnown_body : Try.f11.body = some (.seq (.region 0 lKnown0Ops false) (.seq (.region 1 lKnown1Ops false) (.seq (.block 0 (.loop (.seq (.seq (.region 2 lKnown2Ops false) (.cond (.tmp 35) .skip (.exit 0))) (.block 1 (.region 3 lKnown3Ops false))))) (.seq (.region 4 lKnown4Ops false) (.seq (.seq (.region 5 lKnown5Ops false) (.cond (.tmp 60) (.seq (.region 6 lKnown6Ops false) .ret) .skip)) (.seq (.seq (.region 7 lKnown7Ops true) (.cond (.tmp 119) (.seq (.region 8 lKnown8Ops false) .ret) .skip)) (.seq (.region 9 lKnown9Ops false) (.seq (.region 10 lKnown10Ops false) (.seq (.region 11 lKnown11Ops false) (.seq (.region 12 lKnown12Ops false) (.seq (.region 13 lKnown13Ops false) (.seq (.region 14 lKnown14Ops false) (.seq (.region 15 lKnown15Ops false) (.seq (.region 16 lKnown16Ops false) (.seq (.region 17 lKnown17Ops false) (.seq (.region 18 lKnown18Ops false) (.seq (.region 19 lKnown19Ops true) .ret))))))))))))))))) := by kernel_rfl
theorem lKnown0a_region {Q : Exit → Act → World → Prop}   {w0 : World} {a : Act} {w : World} (h : Hold 295 [(990, .sat (gP 0 none))] w0 a w)
    (hQ : ∀ a' w', Hold 295 [(990, .sat (gP 0 none)), (0, .val (.bool false))] w0 a' w' → Q .normal a' w') : (Code.region 0 lKnown0Ops false).wp Try.prog Q a w := by
  refine region_seq (w0 := w) 1 (by kernel_rfl) ?_
  rw [show List.range 1 = [0] from rfl]
  refine env_one (i := 0) (d := 0) (k := .val (.bool false)) (step_assign (by kernel_rfl) (Opd.const _) rfl) (by kernel_rfl) (by decide) h ?_
  clear h
  intro a w h
  exact hQ a w (h.keep [990, 0])
theorem lKnown1a_region {Q : Exit → Act → World → Prop}   {w0 : World} {a : Act} {w : World} (h : Hold 295 [(990, .sat (gP 0 none)), (0, .val (.bool false))] w0 a w)
    (hQ : ∀ a' w', Hold 295 [(990, .sat (gP 0 none)), (0, .val (.bool false)), (1, .val (.string ⟨#[]⟩))] w0 a' w' → Q .normal a' w') : (Code.region 1 lKnown1Ops false).wp Try.prog Q a w := by
  refine region_seq (w0 := w) 1 (by kernel_rfl) ?_
  rw [show List.range 1 = [0] from rfl]
  refine env_one (i := 0) (d := 1) (k := .val (.string ⟨#[]⟩)) (step_assign (by kernel_rfl) (Opd.const _) rfl) (by kernel_rfl) (by decide) h ?_
  clear h
  intro a w h
  exact hQ a w (h.keep [990, 0, 1])
theorem lKnown2a_region {Q : Exit → Act → World → Prop} (ii : Nat) (hlt : (((Bl.kstr ii).size : Nat) : Int) < 101) {w0 : World} {a : Act} {w : World} (h : Hold 295 [(0, .val (.bool false)), (1, .val (.string (Bl.kstr ii))), (990, .sat (gP 0 none))] w0 a w)
    (hQ : ∀ a' w', Hold 295 [(0, .val (.bool false)), (1, .val (.string (Bl.kstr ii))), (990, .sat (gP 0 none)), (35, .val (.bool true))] w0 a' w' → Q .normal a' w') : (Code.region 2 lKnown2Ops false).wp Try.prog Q a w := by
  refine region_seq (w0 := w) 3 (by kernel_rfl) ?_
  rw [show List.range 3 = [0, 1, 2] from rfl]
  refine env_one (i := 0) (d := 33) (k := .val (.string (Bl.kstr ii))) (step_move (by kernel_rfl) (Opd.of_base 1 rfl) rfl) (by kernel_rfl) (by decide) h ?_
  clear h
  intro a w h
  refine env_one (i := 1) (d := 34) (k := .val (.int .i64 (((Bl.kstr ii).size : Nat) : Int))) (step_len_str (by kernel_rfl) (Opd.of_base 33 rfl) rfl) (by kernel_rfl) (by decide) h ?_
  clear h
  intro a w h
  refine env_one (i := 2) (d := 35) (k := .val (.bool true)) (step_lt_int (m := (((Bl.kstr ii).size : Nat) : Int)) (n := 101) (by kernel_rfl) (Opd.of_base 34 rfl) (Opd.const _) (decide_eq_true hlt) rfl) (by kernel_rfl) (by decide) h ?_
  clear h
  intro a w h
  exact hQ a w (h.keep [0, 1, 990, 35])
theorem lKnown3a_region {Q : Exit → Act → World → Prop} (ii : Nat) (hi : ii < 101) {w0 : World} {a : Act} {w : World} (h : Hold 295 [(0, .val (.bool false)), (1, .val (.string (Bl.kstr ii))), (990, .sat (gP 0 none))] w0 a w)
    (hQ : ∀ a' w', Hold 295 [(0, .val (.bool false)), (1, .val (.string ((Bl.kstr ii) ++ ⟨#[107]⟩))), (990, .sat (gP 0 none))] w0 a' w' → Q .normal a' w') : (Code.region 3 lKnown3Ops false).wp Try.prog Q a w := by
  refine region_seq (w0 := w) 3 (by kernel_rfl) ?_
  rw [show List.range 3 = [0, 1, 2] from rfl]
  refine env_one (i := 0) (d := 36) (k := .val (.string (Bl.kstr ii))) (step_move (by kernel_rfl) (Opd.of_base 1 rfl) rfl) (by kernel_rfl) (by decide) h ?_
  clear h
  intro a w h
  refine env_one (i := 1) (d := 37) (k := .val (.string ((Bl.kstr ii) ++ ⟨#[107]⟩))) (step_concat (s := (Bl.kstr ii)) (t := ⟨#[107]⟩) (by have := Bl.kstr_size ii; show (Bl.kstr ii).size + 1 ≤ _; omega) (by kernel_rfl) (Opd.of_base 36 rfl) (Opd.const _) rfl) (by kernel_rfl) (by decide) h ?_
  clear h
  intro a w h
  refine env_one (i := 2) (d := 1) (k := .val (.string ((Bl.kstr ii) ++ ⟨#[107]⟩))) (step_assign (by kernel_rfl) (Opd.of_base 37 rfl) rfl) (by kernel_rfl) (by decide) h ?_
  clear h
  intro a w h
  exact hQ a w (h.keep [0, 1, 990])
theorem lKnown2b_region {Q : Exit → Act → World → Prop}  (hlt : ¬ (((Bl.kstr 101).size : Nat) : Int) < 101) {w0 : World} {a : Act} {w : World} (h : Hold 295 [(0, .val (.bool false)), (1, .val (.string (Bl.kstr 101))), (990, .sat (gP 0 none))] w0 a w)
    (hQ : ∀ a' w', Hold 295 [(0, .val (.bool false)), (1, .val (.string (Bl.kstr 101))), (990, .sat (gP 0 none)), (35, .val (.bool false))] w0 a' w' → Q .normal a' w') : (Code.region 2 lKnown2Ops false).wp Try.prog Q a w := by
  refine region_seq (w0 := w) 3 (by kernel_rfl) ?_
  rw [show List.range 3 = [0, 1, 2] from rfl]
  refine env_one (i := 0) (d := 33) (k := .val (.string (Bl.kstr 101))) (step_move (by kernel_rfl) (Opd.of_base 1 rfl) rfl) (by kernel_rfl) (by decide) h ?_
  clear h
  intro a w h
  refine env_one (i := 1) (d := 34) (k := .val (.int .i64 (((Bl.kstr 101).size : Nat) : Int))) (step_len_str (by kernel_rfl) (Opd.of_base 33 rfl) rfl) (by kernel_rfl) (by decide) h ?_
  clear h
  intro a w h
  refine env_one (i := 2) (d := 35) (k := .val (.bool false)) (step_lt_int (m := (((Bl.kstr 101).size : Nat) : Int)) (n := 101) (by kernel_rfl) (Opd.of_base 34 rfl) (Opd.const _) (decide_eq_false hlt) rfl) (by kernel_rfl) (by decide) h ?_
  clear h
  intro a w h
  exact hQ a w (h.keep [0, 1, 990, 35])
theorem lKnown4a_region {Q : Exit → Act → World → Prop}   {w0 : World} {a : Act} {w : World} (h : Hold 295 [(0, .val (.bool false)), (1, .val (.string (Bl.kstr 101))), (990, .sat (gP 0 none))] w0 a w)
    (hQ : ∀ a' w', Hold 295 [(0, .val (.bool false)), (1, .val (.string (Bl.kstr 101))), (990, .sat (gP 0 none)), (2, .val (.func (.func 59) #[] #[]))] w0 a' w' → Q .normal a' w') : (Code.region 4 lKnown4Ops false).wp Try.prog Q a w := by
  refine region_seq (w0 := w) 1 (by kernel_rfl) ?_
  rw [show List.range 1 = [0] from rfl]
  refine env_one (i := 0) (d := 2) (k := .val (.func (.func 59) #[] #[])) (step_assign (by kernel_rfl) (Opd.fn _) rfl) (by kernel_rfl) (by decide) h ?_
  clear h
  intro a w h
  exact hQ a w (h.keep [0, 1, 990, 2])
theorem lKnown5a_region {Q : Exit → Act → World → Prop}   {w0 : World} {a : Act} {w : World} (h : Hold 295 [(0, .val (.bool false)), (1, .val (.string (Bl.kstr 101))), (990, .sat (gP 0 none)), (2, .val (.func (.func 59) #[] #[]))] w0 a w)
    (hQ : ∀ a' w', Hold 295 [(0, .val (.bool false)), (1, .val (.string (Bl.kstr 101))), (990, .sat (gP 0 none)), (60, .val (.bool false))] w0 a' w' → Q .normal a' w') : (Code.region 5 lKnown5Ops false).wp Try.prog Q a w := by
  refine region_seq (w0 := w) 23 (by kernel_rfl) ?_
  rw [show List.range 23 = [0, 1, 2, 3, 4, 5, 6, 7, 8, 9, 10, 11, 12, 13, 14, 15, 16, 17, 18, 19, 20, 21, 22] from rfl]
  refine env_one (i := 0) (d := 38) (k := .val (.func (.func 59) #[] #[])) (step_move (by kernel_rfl) (Opd.of_base 2 rfl) rfl) (by kernel_rfl) (by decide) h ?_
  clear h
  intro a w h
  refine env_one (i := 1) (d := 39) (k := .sat (nT 0 none ((Bl.listT (998 : Int).toNat).1) ((Bl.listT (998 : Int).toNat).2))) (step_l59v (g := 990) (by decide) (by kernel_rfl) (Opd.of_base 38 rfl) (Opd.const _) (Opd.of_base 990 rfl) rfl) (by kernel_rfl) (by decide) h ?_
  clear h
  intro a w h
  refine env_one (i := 2) (d := 40) (k := .sat (nT 0 none ((Bl.ty (⟨#[108, 105, 115, 116]⟩) ((Bl.listT (998 : Int).toNat).1) ((Bl.listT (998 : Int).toNat).2)).1) ((Bl.ty (⟨#[108, 105, 115, 116]⟩) ((Bl.listT (998 : Int).toNat).1) ((Bl.listT (998 : Int).toNat).2)).2))) (step_bTy (g := 990) (by kernel_rfl) (Opd.const _) (Opd.ofT (Opd.of_base 39 rfl)) (Opd.of_base 990 rfl) rfl) (by kernel_rfl) (by decide) h ?_
  clear h
  intro a w h
  refine env_one (i := 3) (d := 41) (k := .sat (nT 0 none (2, 0, (⟨#[108, 105, 115, 116]⟩)) .nil)) (step_la (g := 990) (by kernel_rfl) (Opd.const _) (Opd.of_base 990 rfl) rfl) (by kernel_rfl) (by decide) h ?_
  clear h
  intro a w h
  refine env_one (i := 4) (d := 42) (k := .sat (nT 0 none (2, 0, (⟨#[46, 46, 46]⟩)) .nil)) (step_la (g := 990) (by kernel_rfl) (Opd.const _) (Opd.of_base 990 rfl) rfl) (by kernel_rfl) (by decide) h ?_
  clear h
  intro a w h
  refine env_one (i := 5) (d := 43) (k := .sat (nK 0 none knF0)) (step_nslice2 (g := 990) (by kernel_rfl) (Opd.of_base 41 rfl) (Opd.of_base 42 rfl) (Opd.of_base 990 rfl) rfl) (by kernel_rfl) (by decide) h ?_
  clear h
  intro a w h
  refine env_one (i := 6) (d := 44) (k := .sat (nT 0 none (3, 0, ⟨#[116, 121, 112, 101, 95, 101, 114, 114, 111, 114]⟩) knF0)) (step_lf (by kernel_rfl) (Opd.const _) (Opd.ofK (Opd.of_base 43 rfl)) rfl) (by kernel_rfl) (by decide) h ?_
  clear h
  intro a w h
  refine env_one (i := 7) (d := 45) (k := .sat (nT 0 none (3, 0, Tm.errName) (.node (3, 0, ⟨#[116, 121, 112, 101, 95, 101, 114, 114, 111, 114]⟩) knF0 (.node Tm.emptyA .nil .nil)))) (step_lerrN (g := 990) (by kernel_rfl) (Opd.of_base 44 rfl) (Opd.of_base 990 rfl) rfl) (by kernel_rfl) (by decide) h ?_
  clear h
  intro a w h
  refine env_one (i := 8) (d := 46) (k := .val (.bool true)) (step_lsame (by kernel_rfl) (Opd.ofT (Opd.of_base 40 rfl)) (Opd.ofT (Opd.of_base 45 rfl)) (by kernel_rfl)) (by kernel_rfl) (by decide) h ?_
  clear h
  intro a w h
  refine env_one (i := 9) (d := 47) (k := .val (.bool false)) (step_not (by kernel_rfl) (Opd.of_base 46 rfl) rfl) (by kernel_rfl) (by decide) h ?_
  clear h
  intro a w h
  refine env_one (i := 10) (d := 48) (k := .val (.bool false)) (step_move (by kernel_rfl) (Opd.of_base 47 rfl) rfl) (by kernel_rfl) (by decide) h ?_
  clear h
  intro a w h
  refine env_guard (i := 11) (d := 49) (g := 10) (dg := 48) (b := false) (k := .val (.func (.func 59) #[] #[])) (step_move (by kernel_rfl) (Opd.of_base 2 rfl) rfl) (by kernel_rfl) (by decide) (by kernel_rfl) (by decide) rfl h ?_
  clear h
  intro a w h
  refine env_guard (i := 12) (d := 50) (g := 10) (dg := 48) (b := false) (k := .sat (nT 0 none ((Bl.listT (997 : Int).toNat).1) ((Bl.listT (997 : Int).toNat).2))) (step_l59v (g := 990) (by decide) (by kernel_rfl) (Opd.of_base 49 rfl) (Opd.const _) (Opd.of_base 990 rfl) rfl) (by kernel_rfl) (by decide) (by kernel_rfl) (by decide) rfl h ?_
  clear h
  intro a w h
  refine env_guard (i := 13) (d := 51) (g := 10) (dg := 48) (b := false) (k := .sat (nT 0 none ((Bl.ty (⟨#[108, 105, 115, 116]⟩) ((Bl.listT (997 : Int).toNat).1) ((Bl.listT (997 : Int).toNat).2)).1) ((Bl.ty (⟨#[108, 105, 115, 116]⟩) ((Bl.listT (997 : Int).toNat).1) ((Bl.listT (997 : Int).toNat).2)).2))) (step_bTy (g := 990) (by kernel_rfl) (Opd.const _) (Opd.ofT (Opd.of_base 50 rfl)) (Opd.of_base 990 rfl) rfl) (by kernel_rfl) (by decide) (by kernel_rfl) (by decide) rfl h ?_
  clear h
  intro a w h
  refine env_guard (i := 14) (d := 52) (g := 10) (dg := 48) (b := false) (k := .sat (nT 0 none (2, 0, (⟨#[108, 105, 115, 116]⟩)) .nil)) (step_la (g := 990) (by kernel_rfl) (Opd.const _) (Opd.of_base 990 rfl) rfl) (by kernel_rfl) (by decide) (by kernel_rfl) (by decide) rfl h ?_
  clear h
  intro a w h
  refine env_guard (i := 15) (d := 53) (g := 10) (dg := 48) (b := false) (k := .val (.func (.func 59) #[] #[])) (step_move (by kernel_rfl) (Opd.of_base 2 rfl) rfl) (by kernel_rfl) (by decide) (by kernel_rfl) (by decide) rfl h ?_
  clear h
  intro a w h
  refine env_guard (i := 16) (d := 54) (g := 10) (dg := 48) (b := false) (k := .sat (nT 0 none ((Bl.listT (997 : Int).toNat).1) ((Bl.listT (997 : Int).toNat).2))) (step_l59v (g := 990) (by decide) (by kernel_rfl) (Opd.of_base 53 rfl) (Opd.const _) (Opd.of_base 990 rfl) rfl) (by kernel_rfl) (by decide) (by kernel_rfl) (by decide) rfl h ?_
  clear h
  intro a w h
  refine env_guard (i := 17) (d := 55) (g := 10) (dg := 48) (b := false) (k := .sat (nK 0 none knF1)) (step_nslice2 (g := 990) (by kernel_rfl) (Opd.of_base 52 rfl) (Opd.of_base 54 rfl) (Opd.of_base 990 rfl) rfl) (by kernel_rfl) (by decide) (by kernel_rfl) (by decide) rfl h ?_
  clear h
  intro a w h
  refine env_guard (i := 18) (d := 56) (g := 10) (dg := 48) (b := false) (k := .sat (nT 0 none (3, 0, ⟨#[116, 121, 112, 101, 95, 101, 114, 114, 111, 114]⟩) knF1)) (step_lf (by kernel_rfl) (Opd.const _) (Opd.ofK (Opd.of_base 55 rfl)) rfl) (by kernel_rfl) (by decide) (by kernel_rfl) (by decide) rfl h ?_
  clear h
  intro a w h
  refine env_guard (i := 19) (d := 57) (g := 10) (dg := 48) (b := false) (k := .sat (nT 0 none (3, 0, Tm.errName) (.node (3, 0, ⟨#[116, 121, 112, 101, 95, 101, 114, 114, 111, 114]⟩) knF1 (.node Tm.emptyA .nil .nil)))) (step_lerrN (g := 990) (by kernel_rfl) (Opd.of_base 56 rfl) (Opd.of_base 990 rfl) rfl) (by kernel_rfl) (by decide) (by kernel_rfl) (by decide) rfl h ?_
  clear h
  intro a w h
  refine env_guard (i := 20) (d := 58) (g := 10) (dg := 48) (b := false) (k := .val (.bool true)) (step_lsame (by kernel_rfl) (Opd.ofT (Opd.of_base 51 rfl)) (Opd.ofT (Opd.of_base 57 rfl)) (by kernel_rfl)) (by kernel_rfl) (by decide) (by kernel_rfl) (by decide) rfl h ?_
  clear h
  intro a w h
  refine env_guard (i := 21) (d := 59) (g := 10) (dg := 48) (b := false) (k := .val (.bool false)) (step_not (by kernel_rfl) (Opd.of_base 58 rfl) rfl) (by kernel_rfl) (by decide) (by kernel_rfl) (by decide) rfl h ?_
  clear h
  intro a w h
  refine env_one (i := 22) (d := 60) (k := .val (.bool false)) (step_pick_no (x := .const (.bool true)) (by kernel_rfl) (Opd.of_base 48 rfl) (Opd.of_base 59 rfl) rfl) (by kernel_rfl) (by decide) h ?_
  clear h
  intro a w h
  exact hQ a w (h.keep [0, 1, 990, 60])
def lKnown7aEs  : List Kd := [
  .val (.string (Bl.kstr 101)),
  .sat (nT 0 none (0, 0, ByteArray.empty) .nil),
  .sat (nT 0 none ((Bl.ty (Bl.kstr 101) (0, 0, ByteArray.empty) .nil).1) ((Bl.ty (Bl.kstr 101) (0, 0, ByteArray.empty) .nil).2)),
  .sat (nT 0 none (0, 0, ByteArray.empty) .nil),
  .val (.bool true),
  .val (.bool false),
  .val (.bool false),
  .val (.string (Bl.kstr 101)),
  .val (.string (Bl.kstr 100)),
  .sat (nT 0 none (0, 0, ByteArray.empty) .nil),
  .sat (nT 0 none ((Bl.ty (Bl.kstr 100) (0, 0, ByteArray.empty) .nil).1) ((Bl.ty (Bl.kstr 100) (0, 0, ByteArray.empty) .nil).2)),
  .val (.string (Bl.kstr 101)),
  .val (.string (Bl.kstr 100)),
  .sat (nT 0 none (2, 0, (Bl.kstr 100)) .nil),
  .sat (nT 0 none (0, 0, ByteArray.empty) .nil),
  .sat (nK 0 none knF2),
  .sat (nT 0 none (3, 0, ⟨#[116, 121, 112, 101, 95, 101, 114, 114, 111, 114]⟩) knF2),
  .sat (nT 0 none (3, 0, Tm.errName) (.node (3, 0, ⟨#[116, 121, 112, 101, 95, 101, 114, 114, 111, 114]⟩) knF2 (.node Tm.emptyA .nil .nil))),
  .val (.bool true),
  .val (.bool false),
  .val (.bool false),
  .val (.bool false),
  .sat (nT 0 none ((Bl.syn (-1)).1) ((Bl.syn (-1)).2)),
  .sat (nT 0 none (0, 0, ByteArray.empty) .nil),
  .val (.bool true),
  .val (.bool false),
  .val (.bool false),
  .val (.bool false),
  .sat (nT 0 none ((Bl.syn 0).1) ((Bl.syn 0).2)),
  .sat (nT 0 none (1, 0, ByteArray.empty) .nil),
  .sat (nK 0 none knF3),
  .sat (nT 0 none (3, 0, ⟨#[115, 121, 110, 116, 97, 120, 95, 101, 114, 114, 111, 114]⟩) knF3),
  .sat (nT 0 none (3, 0, Tm.errName) (.node (3, 0, ⟨#[115, 121, 110, 116, 97, 120, 95, 101, 114, 114, 111, 114]⟩) knF3 (.node Tm.emptyA .nil .nil))),
  .val (.bool true),
  .val (.bool false),
  .val (.bool false),
  .val (.bool false),
  .sat (nT 0 none (0, (-1), ByteArray.empty) .nil),
  .sat (nT 0 none ((Bl.un (0, (-1), ByteArray.empty) .nil).1) ((Bl.un (0, (-1), ByteArray.empty) .nil).2)),
  .sat (nT 0 none (0, 0, ByteArray.empty) .nil),
  .val (.bool true),
  .val (.bool false),
  .val (.bool false),
  .val (.bool false),
  .val (.string (Bl.kstr 101)),
  .sat (nT 0 none ((Bl.ev (Bl.kstr 101)).1) ((Bl.ev (Bl.kstr 101)).2)),
  .sat (nT 0 none (0, 0, ByteArray.empty) .nil),
  .val (.bool true),
  .val (.bool false),
  .val (.bool false),
  .val (.bool false),
  .sat (nT 0 none ((Bl.rep ⟨#[]⟩).1) ((Bl.rep ⟨#[]⟩).2)),
  .sat (nT 0 none (2, 0, ⟨#[]⟩) .nil),
  .sat (nK 0 none knF4),
  .sat (nT 0 none (3, 0, ⟨#[114, 101, 112, 114, 101, 115, 101, 110, 116, 97, 116, 105, 111, 110, 95, 101, 114, 114, 111, 114]⟩) knF4),
  .sat (nT 0 none (3, 0, Tm.errName) (.node (3, 0, ⟨#[114, 101, 112, 114, 101, 115, 101, 110, 116, 97, 116, 105, 111, 110, 95, 101, 114, 114, 111, 114]⟩) knF4 (.node Tm.emptyA .nil .nil))),
  .val (.bool true),
  .val (.bool false),
  .val (.bool false)]
def lKnown7aDs : List Nat := [61, 62, 63, 64, 65, 66, 67, 68, 69, 70, 71, 72, 73, 74, 75, 76, 77, 78, 79, 80, 81, 82, 83, 84, 85, 86, 87, 88, 89, 90, 91, 92, 93, 94, 95, 96, 97, 98, 99, 100, 101, 102, 103, 104, 105, 106, 107, 108, 109, 110, 111, 112, 113, 114, 115, 116, 117, 118, 119]
def lKnown7aEnv  : Env := [(0, .val (.bool false)), (1, .val (.string (Bl.kstr 101))), (990, .sat (gP 0 none))]
theorem lKnown7a_0 {Q : Exit → Act → World → Prop}   : RStep (strip lKnown7Ops) Q (fun i => ((lKnown7aEs )[i]?).getD .any) (fun i => (lKnown7aDs[i]?).getD (1000 + i)) (look (lKnown7aEnv )) 295 0 := fun _ => step_move (by kernel_rfl) (Opd.of_base 1 rfl) rfl
theorem lKnown7a_1 {Q : Exit → Act → World → Prop}   : RStep (strip lKnown7Ops) Q (fun i => ((lKnown7aEs )[i]?).getD .any) (fun i => (lKnown7aDs[i]?).getD (1000 + i)) (look (lKnown7aEnv )) 295 1 := fun _ => step_lx (g := 990) (by kernel_rfl) (Opd.const _) (Opd.of_base 990 rfl) rfl
theorem lKnown7a_2 {Q : Exit → Act → World → Prop}   : RStep (strip lKnown7Ops) Q (fun i => ((lKnown7aEs )[i]?).getD .any) (fun i => (lKnown7aDs[i]?).getD (1000 + i)) (look (lKnown7aEnv )) 295 2 := fun _ => step_bTy (g := 990) (by kernel_rfl) (Opd.dep 0 rfl rfl (by kernel_rfl)) (Opd.ofT (Opd.dep 1 rfl rfl (by kernel_rfl))) (Opd.of_base 990 rfl) rfl
theorem lKnown7a_3 {Q : Exit → Act → World → Prop}   : RStep (strip lKnown7Ops) Q (fun i => ((lKnown7aEs )[i]?).getD .any) (fun i => (lKnown7aDs[i]?).getD (1000 + i)) (look (lKnown7aEnv )) 295 3 := fun _ => step_lx (g := 990) (by kernel_rfl) (Opd.const _) (Opd.of_base 990 rfl) rfl
theorem lKnown7a_4 {Q : Exit → Act → World → Prop}   : RStep (strip lKnown7Ops) Q (fun i => ((lKnown7aEs )[i]?).getD .any) (fun i => (lKnown7aDs[i]?).getD (1000 + i)) (look (lKnown7aEnv )) 295 4 := fun _ => step_lsame (by kernel_rfl) (Opd.ofT (Opd.dep 2 rfl rfl (by kernel_rfl))) (Opd.ofT (Opd.dep 3 rfl rfl (by kernel_rfl))) (by kernel_rfl)
theorem lKnown7a_5 {Q : Exit → Act → World → Prop}   : RStep (strip lKnown7Ops) Q (fun i => ((lKnown7aEs )[i]?).getD .any) (fun i => (lKnown7aDs[i]?).getD (1000 + i)) (look (lKnown7aEnv )) 295 5 := fun _ => step_not (by kernel_rfl) (Opd.dep 4 rfl rfl (by kernel_rfl)) rfl
theorem lKnown7a_6 {Q : Exit → Act → World → Prop}   : RStep (strip lKnown7Ops) Q (fun i => ((lKnown7aEs )[i]?).getD .any) (fun i => (lKnown7aDs[i]?).getD (1000 + i)) (look (lKnown7aEnv )) 295 6 := fun _ => step_move (by kernel_rfl) (Opd.dep 5 rfl rfl (by kernel_rfl)) rfl
theorem lKnown7a_7 {Q : Exit → Act → World → Prop}   : RStep (strip lKnown7Ops) Q (fun i => ((lKnown7aEs )[i]?).getD .any) (fun i => (lKnown7aDs[i]?).getD (1000 + i)) (look (lKnown7aEnv )) 295 7 := fun _ => step_move (by kernel_rfl) (Opd.of_base 1 rfl) rfl
theorem lKnown7a_8 {Q : Exit → Act → World → Prop}   : RStep (strip lKnown7Ops) Q (fun i => ((lKnown7aEs )[i]?).getD .any) (fun i => (lKnown7aDs[i]?).getD (1000 + i)) (look (lKnown7aEnv )) 295 8 := fun _ => step_pre100 (s := Bl.kstr 101) (by rw [Bl.kstr_size]; decide) kstr_pre (by kernel_rfl) (Opd.dep 7 rfl rfl (by kernel_rfl)) rfl
theorem lKnown7a_9 {Q : Exit → Act → World → Prop}   : RStep (strip lKnown7Ops) Q (fun i => ((lKnown7aEs )[i]?).getD .any) (fun i => (lKnown7aDs[i]?).getD (1000 + i)) (look (lKnown7aEnv )) 295 9 := fun _ => step_lx (g := 990) (by kernel_rfl) (Opd.const _) (Opd.of_base 990 rfl) rfl
theorem lKnown7a_10 {Q : Exit → Act → World → Prop}   : RStep (strip lKnown7Ops) Q (fun i => ((lKnown7aEs )[i]?).getD .any) (fun i => (lKnown7aDs[i]?).getD (1000 + i)) (look (lKnown7aEnv )) 295 10 := fun _ => step_bTy (g := 990) (by kernel_rfl) (Opd.dep 8 rfl rfl (by kernel_rfl)) (Opd.ofT (Opd.dep 9 rfl rfl (by kernel_rfl))) (Opd.of_base 990 rfl) rfl
theorem lKnown7a_11 {Q : Exit → Act → World → Prop}   : RStep (strip lKnown7Ops) Q (fun i => ((lKnown7aEs )[i]?).getD .any) (fun i => (lKnown7aDs[i]?).getD (1000 + i)) (look (lKnown7aEnv )) 295 11 := fun _ => step_move (by kernel_rfl) (Opd.of_base 1 rfl) rfl
theorem lKnown7a_12 {Q : Exit → Act → World → Prop}   : RStep (strip lKnown7Ops) Q (fun i => ((lKnown7aEs )[i]?).getD .any) (fun i => (lKnown7aDs[i]?).getD (1000 + i)) (look (lKnown7aEnv )) 295 12 := fun _ => step_pre100 (s := Bl.kstr 101) (by rw [Bl.kstr_size]; decide) kstr_pre (by kernel_rfl) (Opd.dep 11 rfl rfl (by kernel_rfl)) rfl
theorem lKnown7a_13 {Q : Exit → Act → World → Prop}   : RStep (strip lKnown7Ops) Q (fun i => ((lKnown7aEs )[i]?).getD .any) (fun i => (lKnown7aDs[i]?).getD (1000 + i)) (look (lKnown7aEnv )) 295 13 := fun _ => step_la (g := 990) (by kernel_rfl) (Opd.dep 12 rfl rfl (by kernel_rfl)) (Opd.of_base 990 rfl) rfl
theorem lKnown7a_14 {Q : Exit → Act → World → Prop}   : RStep (strip lKnown7Ops) Q (fun i => ((lKnown7aEs )[i]?).getD .any) (fun i => (lKnown7aDs[i]?).getD (1000 + i)) (look (lKnown7aEnv )) 295 14 := fun _ => step_lx (g := 990) (by kernel_rfl) (Opd.const _) (Opd.of_base 990 rfl) rfl
theorem lKnown7a_15 {Q : Exit → Act → World → Prop}   : RStep (strip lKnown7Ops) Q (fun i => ((lKnown7aEs )[i]?).getD .any) (fun i => (lKnown7aDs[i]?).getD (1000 + i)) (look (lKnown7aEnv )) 295 15 := fun _ => step_nslice2 (g := 990) (by kernel_rfl) (Opd.dep 13 rfl rfl (by kernel_rfl)) (Opd.dep 14 rfl rfl (by kernel_rfl)) (Opd.of_base 990 rfl) rfl
theorem lKnown7a_16 {Q : Exit → Act → World → Prop}   : RStep (strip lKnown7Ops) Q (fun i => ((lKnown7aEs )[i]?).getD .any) (fun i => (lKnown7aDs[i]?).getD (1000 + i)) (look (lKnown7aEnv )) 295 16 := fun _ => step_lf (by kernel_rfl) (Opd.const _) (Opd.ofK (Opd.dep 15 rfl rfl (by kernel_rfl))) rfl
theorem lKnown7a_17 {Q : Exit → Act → World → Prop}   : RStep (strip lKnown7Ops) Q (fun i => ((lKnown7aEs )[i]?).getD .any) (fun i => (lKnown7aDs[i]?).getD (1000 + i)) (look (lKnown7aEnv )) 295 17 := fun _ => step_lerrN (g := 990) (by kernel_rfl) (Opd.dep 16 rfl rfl (by kernel_rfl)) (Opd.of_base 990 rfl) rfl
theorem lKnown7a_18 {Q : Exit → Act → World → Prop}   : RStep (strip lKnown7Ops) Q (fun i => ((lKnown7aEs )[i]?).getD .any) (fun i => (lKnown7aDs[i]?).getD (1000 + i)) (look (lKnown7aEnv )) 295 18 := fun _ => step_lsame (by kernel_rfl) (Opd.ofT (Opd.dep 10 rfl rfl (by kernel_rfl))) (Opd.ofT (Opd.dep 17 rfl rfl (by kernel_rfl))) (by kernel_rfl)
theorem lKnown7a_19 {Q : Exit → Act → World → Prop}   : RStep (strip lKnown7Ops) Q (fun i => ((lKnown7aEs )[i]?).getD .any) (fun i => (lKnown7aDs[i]?).getD (1000 + i)) (look (lKnown7aEnv )) 295 19 := fun _ => step_not (by kernel_rfl) (Opd.dep 18 rfl rfl (by kernel_rfl)) rfl
theorem lKnown7a_20 {Q : Exit → Act → World → Prop}   : RStep (strip lKnown7Ops) Q (fun i => ((lKnown7aEs )[i]?).getD .any) (fun i => (lKnown7aDs[i]?).getD (1000 + i)) (look (lKnown7aEnv )) 295 20 := fun _ => step_pick_no (x := .const (.bool true)) (by kernel_rfl) (Opd.dep 6 rfl rfl (by kernel_rfl)) (Opd.dep 19 rfl rfl (by kernel_rfl)) rfl
theorem lKnown7a_21 {Q : Exit → Act → World → Prop}   : RStep (strip lKnown7Ops) Q (fun i => ((lKnown7aEs )[i]?).getD .any) (fun i => (lKnown7aDs[i]?).getD (1000 + i)) (look (lKnown7aEnv )) 295 21 := fun _ => step_move (by kernel_rfl) (Opd.dep 20 rfl rfl (by kernel_rfl)) rfl
theorem lKnown7a_22 {Q : Exit → Act → World → Prop}   : RStep (strip lKnown7Ops) Q (fun i => ((lKnown7aEs )[i]?).getD .any) (fun i => (lKnown7aDs[i]?).getD (1000 + i)) (look (lKnown7aEnv )) 295 22 := fun _ => step_bSyn (g := 990) (by kernel_rfl) (Opd.const _) (Opd.of_base 990 rfl) rfl
theorem lKnown7a_23 {Q : Exit → Act → World → Prop}   : RStep (strip lKnown7Ops) Q (fun i => ((lKnown7aEs )[i]?).getD .any) (fun i => (lKnown7aDs[i]?).getD (1000 + i)) (look (lKnown7aEnv )) 295 23 := fun _ => step_lx (g := 990) (by kernel_rfl) (Opd.const _) (Opd.of_base 990 rfl) rfl
theorem lKnown7a_24 {Q : Exit → Act → World → Prop}   : RStep (strip lKnown7Ops) Q (fun i => ((lKnown7aEs )[i]?).getD .any) (fun i => (lKnown7aDs[i]?).getD (1000 + i)) (look (lKnown7aEnv )) 295 24 := fun _ => step_lsame (by kernel_rfl) (Opd.ofT (Opd.dep 22 rfl rfl (by kernel_rfl))) (Opd.ofT (Opd.dep 23 rfl rfl (by kernel_rfl))) (by kernel_rfl)
theorem lKnown7a_25 {Q : Exit → Act → World → Prop}   : RStep (strip lKnown7Ops) Q (fun i => ((lKnown7aEs )[i]?).getD .any) (fun i => (lKnown7aDs[i]?).getD (1000 + i)) (look (lKnown7aEnv )) 295 25 := fun _ => step_not (by kernel_rfl) (Opd.dep 24 rfl rfl (by kernel_rfl)) rfl
theorem lKnown7a_26 {Q : Exit → Act → World → Prop}   : RStep (strip lKnown7Ops) Q (fun i => ((lKnown7aEs )[i]?).getD .any) (fun i => (lKnown7aDs[i]?).getD (1000 + i)) (look (lKnown7aEnv )) 295 26 := fun _ => step_pick_no (x := .const (.bool true)) (by kernel_rfl) (Opd.dep 21 rfl rfl (by kernel_rfl)) (Opd.dep 25 rfl rfl (by kernel_rfl)) rfl
theorem lKnown7a_27 {Q : Exit → Act → World → Prop}   : RStep (strip lKnown7Ops) Q (fun i => ((lKnown7aEs )[i]?).getD .any) (fun i => (lKnown7aDs[i]?).getD (1000 + i)) (look (lKnown7aEnv )) 295 27 := fun _ => step_move (by kernel_rfl) (Opd.dep 26 rfl rfl (by kernel_rfl)) rfl
theorem lKnown7a_28 {Q : Exit → Act → World → Prop}   : RStep (strip lKnown7Ops) Q (fun i => ((lKnown7aEs )[i]?).getD .any) (fun i => (lKnown7aDs[i]?).getD (1000 + i)) (look (lKnown7aEnv )) 295 28 := fun _ => step_bSyn (g := 990) (by kernel_rfl) (Opd.const _) (Opd.of_base 990 rfl) rfl
theorem lKnown7a_29 {Q : Exit → Act → World → Prop}   : RStep (strip lKnown7Ops) Q (fun i => ((lKnown7aEs )[i]?).getD .any) (fun i => (lKnown7aDs[i]?).getD (1000 + i)) (look (lKnown7aEnv )) 295 29 := fun _ => step_ln (g := 990) (by kernel_rfl) (Opd.const _) (Opd.of_base 990 rfl) rfl
theorem lKnown7a_30 {Q : Exit → Act → World → Prop}   : RStep (strip lKnown7Ops) Q (fun i => ((lKnown7aEs )[i]?).getD .any) (fun i => (lKnown7aDs[i]?).getD (1000 + i)) (look (lKnown7aEnv )) 295 30 := fun _ => step_nslice1 (g := 990) (by kernel_rfl) (Opd.dep 29 rfl rfl (by kernel_rfl)) (Opd.of_base 990 rfl) rfl
theorem lKnown7a_31 {Q : Exit → Act → World → Prop}   : RStep (strip lKnown7Ops) Q (fun i => ((lKnown7aEs )[i]?).getD .any) (fun i => (lKnown7aDs[i]?).getD (1000 + i)) (look (lKnown7aEnv )) 295 31 := fun _ => step_lf (by kernel_rfl) (Opd.const _) (Opd.ofK (Opd.dep 30 rfl rfl (by kernel_rfl))) rfl
theorem lKnown7a_32 {Q : Exit → Act → World → Prop}   : RStep (strip lKnown7Ops) Q (fun i => ((lKnown7aEs )[i]?).getD .any) (fun i => (lKnown7aDs[i]?).getD (1000 + i)) (look (lKnown7aEnv )) 295 32 := fun _ => step_lerrN (g := 990) (by kernel_rfl) (Opd.dep 31 rfl rfl (by kernel_rfl)) (Opd.of_base 990 rfl) rfl
theorem lKnown7a_33 {Q : Exit → Act → World → Prop}   : RStep (strip lKnown7Ops) Q (fun i => ((lKnown7aEs )[i]?).getD .any) (fun i => (lKnown7aDs[i]?).getD (1000 + i)) (look (lKnown7aEnv )) 295 33 := fun _ => step_lsame (by kernel_rfl) (Opd.ofT (Opd.dep 28 rfl rfl (by kernel_rfl))) (Opd.ofT (Opd.dep 32 rfl rfl (by kernel_rfl))) (by kernel_rfl)
theorem lKnown7a_34 {Q : Exit → Act → World → Prop}   : RStep (strip lKnown7Ops) Q (fun i => ((lKnown7aEs )[i]?).getD .any) (fun i => (lKnown7aDs[i]?).getD (1000 + i)) (look (lKnown7aEnv )) 295 34 := fun _ => step_not (by kernel_rfl) (Opd.dep 33 rfl rfl (by kernel_rfl)) rfl
theorem lKnown7a_35 {Q : Exit → Act → World → Prop}   : RStep (strip lKnown7Ops) Q (fun i => ((lKnown7aEs )[i]?).getD .any) (fun i => (lKnown7aDs[i]?).getD (1000 + i)) (look (lKnown7aEnv )) 295 35 := fun _ => step_pick_no (x := .const (.bool true)) (by kernel_rfl) (Opd.dep 27 rfl rfl (by kernel_rfl)) (Opd.dep 34 rfl rfl (by kernel_rfl)) rfl
theorem lKnown7a_36 {Q : Exit → Act → World → Prop}   : RStep (strip lKnown7Ops) Q (fun i => ((lKnown7aEs )[i]?).getD .any) (fun i => (lKnown7aDs[i]?).getD (1000 + i)) (look (lKnown7aEnv )) 295 36 := fun _ => step_move (by kernel_rfl) (Opd.dep 35 rfl rfl (by kernel_rfl)) rfl
theorem lKnown7a_37 {Q : Exit → Act → World → Prop}   : RStep (strip lKnown7Ops) Q (fun i => ((lKnown7aEs )[i]?).getD .any) (fun i => (lKnown7aDs[i]?).getD (1000 + i)) (look (lKnown7aEnv )) 295 37 := fun _ => step_lx (g := 990) (by kernel_rfl) (Opd.const _) (Opd.of_base 990 rfl) rfl
theorem lKnown7a_38 {Q : Exit → Act → World → Prop}   : RStep (strip lKnown7Ops) Q (fun i => ((lKnown7aEs )[i]?).getD .any) (fun i => (lKnown7aDs[i]?).getD (1000 + i)) (look (lKnown7aEnv )) 295 38 := fun _ => step_bUn (g := 990) (by kernel_rfl) (Opd.ofT (Opd.dep 37 rfl rfl (by kernel_rfl))) (Opd.of_base 990 rfl) rfl
theorem lKnown7a_39 {Q : Exit → Act → World → Prop}   : RStep (strip lKnown7Ops) Q (fun i => ((lKnown7aEs )[i]?).getD .any) (fun i => (lKnown7aDs[i]?).getD (1000 + i)) (look (lKnown7aEnv )) 295 39 := fun _ => step_lx (g := 990) (by kernel_rfl) (Opd.const _) (Opd.of_base 990 rfl) rfl
theorem lKnown7a_40 {Q : Exit → Act → World → Prop}   : RStep (strip lKnown7Ops) Q (fun i => ((lKnown7aEs )[i]?).getD .any) (fun i => (lKnown7aDs[i]?).getD (1000 + i)) (look (lKnown7aEnv )) 295 40 := fun _ => step_lsame (by kernel_rfl) (Opd.ofT (Opd.dep 38 rfl rfl (by kernel_rfl))) (Opd.ofT (Opd.dep 39 rfl rfl (by kernel_rfl))) (by kernel_rfl)
theorem lKnown7a_41 {Q : Exit → Act → World → Prop}   : RStep (strip lKnown7Ops) Q (fun i => ((lKnown7aEs )[i]?).getD .any) (fun i => (lKnown7aDs[i]?).getD (1000 + i)) (look (lKnown7aEnv )) 295 41 := fun _ => step_not (by kernel_rfl) (Opd.dep 40 rfl rfl (by kernel_rfl)) rfl
theorem lKnown7a_42 {Q : Exit → Act → World → Prop}   : RStep (strip lKnown7Ops) Q (fun i => ((lKnown7aEs )[i]?).getD .any) (fun i => (lKnown7aDs[i]?).getD (1000 + i)) (look (lKnown7aEnv )) 295 42 := fun _ => step_pick_no (x := .const (.bool true)) (by kernel_rfl) (Opd.dep 36 rfl rfl (by kernel_rfl)) (Opd.dep 41 rfl rfl (by kernel_rfl)) rfl
theorem lKnown7a_43 {Q : Exit → Act → World → Prop}   : RStep (strip lKnown7Ops) Q (fun i => ((lKnown7aEs )[i]?).getD .any) (fun i => (lKnown7aDs[i]?).getD (1000 + i)) (look (lKnown7aEnv )) 295 43 := fun _ => step_move (by kernel_rfl) (Opd.dep 42 rfl rfl (by kernel_rfl)) rfl
theorem lKnown7a_44 {Q : Exit → Act → World → Prop}   : RStep (strip lKnown7Ops) Q (fun i => ((lKnown7aEs )[i]?).getD .any) (fun i => (lKnown7aDs[i]?).getD (1000 + i)) (look (lKnown7aEnv )) 295 44 := fun _ => step_move (by kernel_rfl) (Opd.of_base 1 rfl) rfl
theorem lKnown7a_45 {Q : Exit → Act → World → Prop}   : RStep (strip lKnown7Ops) Q (fun i => ((lKnown7aEs )[i]?).getD .any) (fun i => (lKnown7aDs[i]?).getD (1000 + i)) (look (lKnown7aEnv )) 295 45 := fun _ => step_bEv (g := 990) (by kernel_rfl) (Opd.dep 44 rfl rfl (by kernel_rfl)) (Opd.of_base 990 rfl) rfl
theorem lKnown7a_46 {Q : Exit → Act → World → Prop}   : RStep (strip lKnown7Ops) Q (fun i => ((lKnown7aEs )[i]?).getD .any) (fun i => (lKnown7aDs[i]?).getD (1000 + i)) (look (lKnown7aEnv )) 295 46 := fun _ => step_lx (g := 990) (by kernel_rfl) (Opd.const _) (Opd.of_base 990 rfl) rfl
theorem lKnown7a_47 {Q : Exit → Act → World → Prop}   : RStep (strip lKnown7Ops) Q (fun i => ((lKnown7aEs )[i]?).getD .any) (fun i => (lKnown7aDs[i]?).getD (1000 + i)) (look (lKnown7aEnv )) 295 47 := fun _ => step_lsame (by kernel_rfl) (Opd.ofT (Opd.dep 45 rfl rfl (by kernel_rfl))) (Opd.ofT (Opd.dep 46 rfl rfl (by kernel_rfl))) (by kernel_rfl)
theorem lKnown7a_48 {Q : Exit → Act → World → Prop}   : RStep (strip lKnown7Ops) Q (fun i => ((lKnown7aEs )[i]?).getD .any) (fun i => (lKnown7aDs[i]?).getD (1000 + i)) (look (lKnown7aEnv )) 295 48 := fun _ => step_not (by kernel_rfl) (Opd.dep 47 rfl rfl (by kernel_rfl)) rfl
theorem lKnown7a_49 {Q : Exit → Act → World → Prop}   : RStep (strip lKnown7Ops) Q (fun i => ((lKnown7aEs )[i]?).getD .any) (fun i => (lKnown7aDs[i]?).getD (1000 + i)) (look (lKnown7aEnv )) 295 49 := fun _ => step_pick_no (x := .const (.bool true)) (by kernel_rfl) (Opd.dep 43 rfl rfl (by kernel_rfl)) (Opd.dep 48 rfl rfl (by kernel_rfl)) rfl
theorem lKnown7a_50 {Q : Exit → Act → World → Prop}   : RStep (strip lKnown7Ops) Q (fun i => ((lKnown7aEs )[i]?).getD .any) (fun i => (lKnown7aDs[i]?).getD (1000 + i)) (look (lKnown7aEnv )) 295 50 := fun _ => step_move (by kernel_rfl) (Opd.dep 49 rfl rfl (by kernel_rfl)) rfl
theorem lKnown7a_51 {Q : Exit → Act → World → Prop}   : RStep (strip lKnown7Ops) Q (fun i => ((lKnown7aEs )[i]?).getD .any) (fun i => (lKnown7aDs[i]?).getD (1000 + i)) (look (lKnown7aEnv )) 295 51 := fun _ => step_bRep (g := 990) (by kernel_rfl) (Opd.const _) (Opd.of_base 990 rfl) rfl
theorem lKnown7a_52 {Q : Exit → Act → World → Prop}   : RStep (strip lKnown7Ops) Q (fun i => ((lKnown7aEs )[i]?).getD .any) (fun i => (lKnown7aDs[i]?).getD (1000 + i)) (look (lKnown7aEnv )) 295 52 := fun _ => step_la (g := 990) (by kernel_rfl) (Opd.const _) (Opd.of_base 990 rfl) rfl
theorem lKnown7a_53 {Q : Exit → Act → World → Prop}   : RStep (strip lKnown7Ops) Q (fun i => ((lKnown7aEs )[i]?).getD .any) (fun i => (lKnown7aDs[i]?).getD (1000 + i)) (look (lKnown7aEnv )) 295 53 := fun _ => step_nslice1 (g := 990) (by kernel_rfl) (Opd.dep 52 rfl rfl (by kernel_rfl)) (Opd.of_base 990 rfl) rfl
theorem lKnown7a_54 {Q : Exit → Act → World → Prop}   : RStep (strip lKnown7Ops) Q (fun i => ((lKnown7aEs )[i]?).getD .any) (fun i => (lKnown7aDs[i]?).getD (1000 + i)) (look (lKnown7aEnv )) 295 54 := fun _ => step_lf (by kernel_rfl) (Opd.const _) (Opd.ofK (Opd.dep 53 rfl rfl (by kernel_rfl))) rfl
theorem lKnown7a_55 {Q : Exit → Act → World → Prop}   : RStep (strip lKnown7Ops) Q (fun i => ((lKnown7aEs )[i]?).getD .any) (fun i => (lKnown7aDs[i]?).getD (1000 + i)) (look (lKnown7aEnv )) 295 55 := fun _ => step_lerrN (g := 990) (by kernel_rfl) (Opd.dep 54 rfl rfl (by kernel_rfl)) (Opd.of_base 990 rfl) rfl
theorem lKnown7a_56 {Q : Exit → Act → World → Prop}   : RStep (strip lKnown7Ops) Q (fun i => ((lKnown7aEs )[i]?).getD .any) (fun i => (lKnown7aDs[i]?).getD (1000 + i)) (look (lKnown7aEnv )) 295 56 := fun _ => step_lsame (by kernel_rfl) (Opd.ofT (Opd.dep 51 rfl rfl (by kernel_rfl))) (Opd.ofT (Opd.dep 55 rfl rfl (by kernel_rfl))) (by kernel_rfl)
theorem lKnown7a_57 {Q : Exit → Act → World → Prop}   : RStep (strip lKnown7Ops) Q (fun i => ((lKnown7aEs )[i]?).getD .any) (fun i => (lKnown7aDs[i]?).getD (1000 + i)) (look (lKnown7aEnv )) 295 57 := fun _ => step_not (by kernel_rfl) (Opd.dep 56 rfl rfl (by kernel_rfl)) rfl
theorem lKnown7a_58 {Q : Exit → Act → World → Prop}   : RStep (strip lKnown7Ops) Q (fun i => ((lKnown7aEs )[i]?).getD .any) (fun i => (lKnown7aDs[i]?).getD (1000 + i)) (look (lKnown7aEnv )) 295 58 := fun _ => step_pick_no (x := .const (.bool true)) (by kernel_rfl) (Opd.dep 50 rfl rfl (by kernel_rfl)) (Opd.dep 57 rfl rfl (by kernel_rfl)) rfl
theorem lKnown7a_region {Q : Exit → Act → World → Prop}   {w0 : World} {a : Act} {w : World} (h : Hold 295 [(0, .val (.bool false)), (1, .val (.string (Bl.kstr 101))), (990, .sat (gP 0 none))] w0 a w)
    (hQ : ∀ a' w', Hold 295 [(0, .val (.bool false)), (990, .sat (gP 0 none)), (119, .val (.bool false))] w0 a' w' → Q .normal a' w') : (Code.region 7 lKnown7Ops true).wp Try.prog Q a w := by
  have hall : ∀ i, i < 0 → RStep (strip lKnown7Ops) Q (fun i => ((lKnown7aEs )[i]?).getD .any) (fun i => (lKnown7aDs[i]?).getD (1000 + i)) (look (lKnown7aEnv )) 295 i := fun i hi => absurd hi (by omega)
  have hall := below_succ hall (lKnown7a_0  )
  have hall := below_succ hall (lKnown7a_1  )
  have hall := below_succ hall (lKnown7a_2  )
  have hall := below_succ hall (lKnown7a_3  )
  have hall := below_succ hall (lKnown7a_4  )
  have hall := below_succ hall (lKnown7a_5  )
  have hall := below_succ hall (lKnown7a_6  )
  have hall := below_succ hall (lKnown7a_7  )
  have hall := below_succ hall (lKnown7a_8  )
  have hall := below_succ hall (lKnown7a_9  )
  have hall := below_succ hall (lKnown7a_10  )
  have hall := below_succ hall (lKnown7a_11  )
  have hall := below_succ hall (lKnown7a_12  )
  have hall := below_succ hall (lKnown7a_13  )
  have hall := below_succ hall (lKnown7a_14  )
  have hall := below_succ hall (lKnown7a_15  )
  have hall := below_succ hall (lKnown7a_16  )
  have hall := below_succ hall (lKnown7a_17  )
  have hall := below_succ hall (lKnown7a_18  )
  have hall := below_succ hall (lKnown7a_19  )
  have hall := below_succ hall (lKnown7a_20  )
  have hall := below_succ hall (lKnown7a_21  )
  have hall := below_succ hall (lKnown7a_22  )
  have hall := below_succ hall (lKnown7a_23  )
  have hall := below_succ hall (lKnown7a_24  )
  have hall := below_succ hall (lKnown7a_25  )
  have hall := below_succ hall (lKnown7a_26  )
  have hall := below_succ hall (lKnown7a_27  )
  have hall := below_succ hall (lKnown7a_28  )
  have hall := below_succ hall (lKnown7a_29  )
  have hall := below_succ hall (lKnown7a_30  )
  have hall := below_succ hall (lKnown7a_31  )
  have hall := below_succ hall (lKnown7a_32  )
  have hall := below_succ hall (lKnown7a_33  )
  have hall := below_succ hall (lKnown7a_34  )
  have hall := below_succ hall (lKnown7a_35  )
  have hall := below_succ hall (lKnown7a_36  )
  have hall := below_succ hall (lKnown7a_37  )
  have hall := below_succ hall (lKnown7a_38  )
  have hall := below_succ hall (lKnown7a_39  )
  have hall := below_succ hall (lKnown7a_40  )
  have hall := below_succ hall (lKnown7a_41  )
  have hall := below_succ hall (lKnown7a_42  )
  have hall := below_succ hall (lKnown7a_43  )
  have hall := below_succ hall (lKnown7a_44  )
  have hall := below_succ hall (lKnown7a_45  )
  have hall := below_succ hall (lKnown7a_46  )
  have hall := below_succ hall (lKnown7a_47  )
  have hall := below_succ hall (lKnown7a_48  )
  have hall := below_succ hall (lKnown7a_49  )
  have hall := below_succ hall (lKnown7a_50  )
  have hall := below_succ hall (lKnown7a_51  )
  have hall := below_succ hall (lKnown7a_52  )
  have hall := below_succ hall (lKnown7a_53  )
  have hall := below_succ hall (lKnown7a_54  )
  have hall := below_succ hall (lKnown7a_55  )
  have hall := below_succ hall (lKnown7a_56  )
  have hall := below_succ hall (lKnown7a_57  )
  have hall := below_succ hall (lKnown7a_58  )
  refine env_then (m := 59) (n := 59) lKnown7aDs (lKnown7aEs ) rfl (by kernel_rfl) (by decide) (by kernel_rfl) (of_decide_eq_true (by kernel_rfl)) (by kernel_rfl) (by kernel_rfl) (fun i_ hi_ => hall i_ hi_) h fun a w h => ?_
  clear hall
  have h := h.keep [0, 1, 990, 61, 62, 63, 64, 65, 66, 67, 68, 69, 70, 71, 72, 73, 74, 75, 76, 77, 78, 79, 80, 81, 82, 83, 84, 85, 86, 87, 88, 89, 90, 91, 92, 93, 94, 95, 96, 97, 98, 99, 100, 101, 102, 103, 104, 105, 106, 107, 108, 109, 110, 111, 112, 113, 114, 115, 116, 117, 118, 119]
  show wpOps Try.prog _ Q [] a w
  exact hQ a w (h.keep [0, 990, 119])
theorem lKnown9a_region {Q : Exit → Act → World → Prop}   {w0 : World} {a : Act} {w : World} (h : Hold 295 [(0, .val (.bool false)), (990, .sat (gP 0 none))] w0 a w)
    (hQ : ∀ a' w', Hold 295 [(0, .val (.bool false)), (990, .sat (gP 0 none)), (4, .val (.bool false))] w0 a' w' → Q .normal a' w') : (Code.region 9 lKnown9Ops false).wp Try.prog Q a w := by
  refine region_seq (w0 := w) 10 (by kernel_rfl) ?_
  rw [show List.range 10 = [0, 1, 2, 3, 4, 5, 6, 7, 8, 9] from rfl]
  refine env_one (i := 0) (d := 121) (k := .sat (nT 0 none (2, 0, ⟨#[97]⟩) .nil)) (step_la (g := 990) (by kernel_rfl) (Opd.const _) (Opd.of_base 990 rfl) rfl) (by kernel_rfl) (by decide) h ?_
  clear h
  intro a w h
  refine env_one (i := 1) (d := 122) (k := .sat (nK 0 none knF5)) (step_nslice1 (g := 990) (by kernel_rfl) (Opd.of_base 121 rfl) (Opd.of_base 990 rfl) rfl) (by kernel_rfl) (by decide) h ?_
  clear h
  intro a w h
  refine env_one (i := 2) (d := 123) (k := .sat (nT 0 none (3, 0, ⟨#[101, 114, 114, 111, 114]⟩) knF5)) (step_lf (by kernel_rfl) (Opd.const _) (Opd.ofK (Opd.of_base 122 rfl)) rfl) (by kernel_rfl) (by decide) h ?_
  clear h
  intro a w h
  refine env_one (i := 3) (d := 124) (k := .sat (nT2 0 none (((Bl.formal (3, 0, ⟨#[101, 114, 114, 111, 114]⟩) knF5).1).1) (((Bl.formal (3, 0, ⟨#[101, 114, 114, 111, 114]⟩) knF5).1).2) ((Bl.formal (3, 0, ⟨#[101, 114, 114, 111, 114]⟩) knF5).2))) (step_bFormal (g := 990) (by kernel_rfl) (Opd.ofT (Opd.of_base 123 rfl)) (Opd.of_base 990 rfl) rfl) (by kernel_rfl) (by decide) h ?_
  clear h
  intro a w h
  refine env_one (i := 4) (d := 120) (k := .sat (nT2 0 none (((Bl.formal (3, 0, ⟨#[101, 114, 114, 111, 114]⟩) knF5).1).1) (((Bl.formal (3, 0, ⟨#[101, 114, 114, 111, 114]⟩) knF5).1).2) ((Bl.formal (3, 0, ⟨#[101, 114, 114, 111, 114]⟩) knF5).2))) (step_move (by kernel_rfl) (Opd.of_base 124 rfl) rfl) (by kernel_rfl) (by decide) h ?_
  clear h
  intro a w h
  refine env_one (i := 5) (d := 125) (k := .sat (nT 0 none (((Bl.formal (3, 0, ⟨#[101, 114, 114, 111, 114]⟩) knF5).1).1) (((Bl.formal (3, 0, ⟨#[101, 114, 114, 111, 114]⟩) knF5).1).2))) (step_nT2_0 (by kernel_rfl) (Opd.of_base 120 rfl) rfl) (by kernel_rfl) (by decide) h ?_
  clear h
  intro a w h
  refine env_one (i := 6) (d := 126) (k := .val (.bool false)) (step_nT2_1 (by kernel_rfl) (Opd.of_base 120 rfl) (by kernel_rfl)) (by kernel_rfl) (by decide) h ?_
  clear h
  intro a w h
  have h := h.cast 125 rfl
  refine env_box (i := 7) (d := 3) (by kernel_rfl) (by decide) (by kernel_rfl) (by decide) (s := 125) rfl h ?_
  clear h
  intro a w h
  refine env_one (i := 9) (d := 4) (k := .val (.bool false)) (step_assign (by kernel_rfl) (Opd.of_base 126 rfl) rfl) (by kernel_rfl) (by decide) h ?_
  clear h
  intro a w h
  exact hQ a w (h.keep [0, 990, 4])
theorem lKnown10a_region {Q : Exit → Act → World → Prop}   {w0 : World} {a : Act} {w : World} (h : Hold 295 [(0, .val (.bool false)), (990, .sat (gP 0 none)), (4, .val (.bool false))] w0 a w)
    (hQ : ∀ a' w', Hold 295 [(0, .val (.bool false)), (990, .sat (gP 0 none)), (4, .val (.bool false)), (6, .val (.bool false))] w0 a' w' → Q .normal a' w') : (Code.region 10 lKnown10Ops false).wp Try.prog Q a w := by
  refine region_seq (w0 := w) 8 (by kernel_rfl) ?_
  rw [show List.range 8 = [0, 1, 2, 3, 4, 5, 6, 7] from rfl]
  refine env_one (i := 0) (d := 128) (k := .sat (nT 0 none (2, 0, (⟨#[101, 114, 114, 111, 114]⟩)) .nil)) (step_la (g := 990) (by kernel_rfl) (Opd.const _) (Opd.of_base 990 rfl) rfl) (by kernel_rfl) (by decide) h ?_
  clear h
  intro a w h
  refine env_one (i := 1) (d := 129) (k := .sat (nT2 0 none (((Bl.formal (2, 0, (⟨#[101, 114, 114, 111, 114]⟩)) .nil).1).1) (((Bl.formal (2, 0, (⟨#[101, 114, 114, 111, 114]⟩)) .nil).1).2) ((Bl.formal (2, 0, (⟨#[101, 114, 114, 111, 114]⟩)) .nil).2))) (step_bFormal (g := 990) (by kernel_rfl) (Opd.ofT (Opd.of_base 128 rfl)) (Opd.of_base 990 rfl) rfl) (by kernel_rfl) (by decide) h ?_
  clear h
  intro a w h
  refine env_one (i := 2) (d := 127) (k := .sat (nT2 0 none (((Bl.formal (2, 0, (⟨#[101, 114, 114, 111, 114]⟩)) .nil).1).1) (((Bl.formal (2, 0, (⟨#[101, 114, 114, 111, 114]⟩)) .nil).1).2) ((Bl.formal (2, 0, (⟨#[101, 114, 114, 111, 114]⟩)) .nil).2))) (step_move (by kernel_rfl) (Opd.of_base 129 rfl) rfl) (by kernel_rfl) (by decide) h ?_
  clear h
  intro a w h
  refine env_one (i := 3) (d := 130) (k := .sat (nT 0 none (((Bl.formal (2, 0, (⟨#[101, 114, 114, 111, 114]⟩)) .nil).1).1) (((Bl.formal (2, 0, (⟨#[101, 114, 114, 111, 114]⟩)) .nil).1).2))) (step_nT2_0 (by kernel_rfl) (Opd.of_base 127 rfl) rfl) (by kernel_rfl) (by decide) h ?_
  clear h
  intro a w h
  refine env_one (i := 4) (d := 131) (k := .val (.bool false)) (step_nT2_1 (by kernel_rfl) (Opd.of_base 127 rfl) (by kernel_rfl)) (by kernel_rfl) (by decide) h ?_
  clear h
  intro a w h
  have h := h.cast 130 rfl
  refine env_box (i := 5) (d := 5) (by kernel_rfl) (by decide) (by kernel_rfl) (by decide) (s := 130) rfl h ?_
  clear h
  intro a w h
  refine env_one (i := 7) (d := 6) (k := .val (.bool false)) (step_assign (by kernel_rfl) (Opd.of_base 131 rfl) rfl) (by kernel_rfl) (by decide) h ?_
  clear h
  intro a w h
  exact hQ a w (h.keep [0, 990, 4, 6])
theorem lKnown11a_region {Q : Exit → Act → World → Prop}   {w0 : World} {a : Act} {w : World} (h : Hold 295 [(0, .val (.bool false)), (990, .sat (gP 0 none)), (4, .val (.bool false)), (6, .val (.bool false))] w0 a w)
    (hQ : ∀ a' w', Hold 295 [(0, .val (.bool false)), (990, .sat (gP 0 none)), (4, .val (.bool false)), (6, .val (.bool false)), (7, .val (.int .i64 (Bl.code (1, 255, ByteArray.empty) .nil).1)), (9, .val (.bool true))] w0 a' w' → Q .normal a' w') : (Code.region 11 lKnown11Ops false).wp Try.prog Q a w := by
  refine region_seq (w0 := w) 10 (by kernel_rfl) ?_
  rw [show List.range 10 = [0, 1, 2, 3, 4, 5, 6, 7, 8, 9] from rfl]
  refine env_one (i := 0) (d := 133) (k := .sat (nT 0 none (1, 255, ByteArray.empty) .nil)) (step_ln (g := 990) (by kernel_rfl) (Opd.const _) (Opd.of_base 990 rfl) rfl) (by kernel_rfl) (by decide) h ?_
  clear h
  intro a w h
  refine env_one (i := 1) (d := 134) (k := .sat (nT3 0 none (.int .i64 (Bl.code (1, 255, ByteArray.empty) .nil).1) (((Bl.code (1, 255, ByteArray.empty) .nil).2.1).1) (((Bl.code (1, 255, ByteArray.empty) .nil).2.1).2) ((Bl.code (1, 255, ByteArray.empty) .nil).2.2))) (step_bCode (g := 990) (by kernel_rfl) (Opd.ofT (Opd.of_base 133 rfl)) (Opd.of_base 990 rfl) rfl) (by kernel_rfl) (by decide) h ?_
  clear h
  intro a w h
  refine env_one (i := 2) (d := 132) (k := .sat (nT3 0 none (.int .i64 (Bl.code (1, 255, ByteArray.empty) .nil).1) (((Bl.code (1, 255, ByteArray.empty) .nil).2.1).1) (((Bl.code (1, 255, ByteArray.empty) .nil).2.1).2) ((Bl.code (1, 255, ByteArray.empty) .nil).2.2))) (step_move (by kernel_rfl) (Opd.of_base 134 rfl) rfl) (by kernel_rfl) (by decide) h ?_
  clear h
  intro a w h
  refine env_one (i := 3) (d := 135) (k := .val (.int .i64 (Bl.code (1, 255, ByteArray.empty) .nil).1)) (step_nT3_0 (by kernel_rfl) (Opd.of_base 132 rfl) rfl) (by kernel_rfl) (by decide) h ?_
  clear h
  intro a w h
  refine env_one (i := 4) (d := 136) (k := .sat (nT 0 none (((Bl.code (1, 255, ByteArray.empty) .nil).2.1).1) (((Bl.code (1, 255, ByteArray.empty) .nil).2.1).2))) (step_nT3_1 (by kernel_rfl) (Opd.of_base 132 rfl) rfl) (by kernel_rfl) (by decide) h ?_
  clear h
  intro a w h
  refine env_one (i := 5) (d := 137) (k := .val (.bool true)) (step_nT3_2 (by kernel_rfl) (Opd.of_base 132 rfl) (by kernel_rfl)) (by kernel_rfl) (by decide) h ?_
  clear h
  intro a w h
  have h := h.cast 136 rfl
  refine env_box3 (i := 6) (d := 8) (e := 7) (by kernel_rfl) (by decide) (by kernel_rfl) (by decide) (x := 135) rfl (by decide) (by decide) (by kernel_rfl) (by decide) (by decide) (s := 136) rfl h ?_
  clear h
  intro a w h
  refine env_one (i := 9) (d := 9) (k := .val (.bool true)) (step_assign (by kernel_rfl) (Opd.of_base 137 rfl) rfl) (by kernel_rfl) (by decide) h ?_
  clear h
  intro a w h
  exact hQ a w (h.keep [0, 990, 4, 6, 7, 9])
theorem lKnown12a_region {Q : Exit → Act → World → Prop}   {w0 : World} {a : Act} {w : World} (h : Hold 295 [(0, .val (.bool false)), (990, .sat (gP 0 none)), (4, .val (.bool false)), (6, .val (.bool false)), (7, .val (.int .i64 (Bl.code (1, 255, ByteArray.empty) .nil).1)), (9, .val (.bool true))] w0 a w)
    (hQ : ∀ a' w', Hold 295 [(0, .val (.bool false)), (990, .sat (gP 0 none)), (4, .val (.bool false)), (6, .val (.bool false)), (7, .val (.int .i64 (Bl.code (1, 255, ByteArray.empty) .nil).1)), (9, .val (.bool true)), (11, .ptrT (((Bl.code (2, 0, ⟨#[97]⟩) .nil).2.1).1) (((Bl.code (2, 0, ⟨#[97]⟩) .nil).2.1).2)), (12, .val (.bool false))] w0 a' w' → Q .normal a' w') : (Code.region 12 lKnown12Ops false).wp Try.prog Q a w := by
  refine region_seq (w0 := w) 10 (by kernel_rfl) ?_
  rw [show List.range 10 = [0, 1, 2, 3, 4, 5, 6, 7, 8, 9] from rfl]
  refine env_one (i := 0) (d := 139) (k := .sat (nT 0 none (2, 0, ⟨#[97]⟩) .nil)) (step_la (g := 990) (by kernel_rfl) (Opd.const _) (Opd.of_base 990 rfl) rfl) (by kernel_rfl) (by decide) h ?_
  clear h
  intro a w h
  refine env_one (i := 1) (d := 140) (k := .sat (nT3 0 none (.int .i64 (Bl.code (2, 0, ⟨#[97]⟩) .nil).1) (((Bl.code (2, 0, ⟨#[97]⟩) .nil).2.1).1) (((Bl.code (2, 0, ⟨#[97]⟩) .nil).2.1).2) ((Bl.code (2, 0, ⟨#[97]⟩) .nil).2.2))) (step_bCode (g := 990) (by kernel_rfl) (Opd.ofT (Opd.of_base 139 rfl)) (Opd.of_base 990 rfl) rfl) (by kernel_rfl) (by decide) h ?_
  clear h
  intro a w h
  refine env_one (i := 2) (d := 138) (k := .sat (nT3 0 none (.int .i64 (Bl.code (2, 0, ⟨#[97]⟩) .nil).1) (((Bl.code (2, 0, ⟨#[97]⟩) .nil).2.1).1) (((Bl.code (2, 0, ⟨#[97]⟩) .nil).2.1).2) ((Bl.code (2, 0, ⟨#[97]⟩) .nil).2.2))) (step_move (by kernel_rfl) (Opd.of_base 140 rfl) rfl) (by kernel_rfl) (by decide) h ?_
  clear h
  intro a w h
  refine env_one (i := 3) (d := 141) (k := .val (.int .i64 (Bl.code (2, 0, ⟨#[97]⟩) .nil).1)) (step_nT3_0 (by kernel_rfl) (Opd.of_base 138 rfl) rfl) (by kernel_rfl) (by decide) h ?_
  clear h
  intro a w h
  refine env_one (i := 4) (d := 142) (k := .sat (nT 0 none (((Bl.code (2, 0, ⟨#[97]⟩) .nil).2.1).1) (((Bl.code (2, 0, ⟨#[97]⟩) .nil).2.1).2))) (step_nT3_1 (by kernel_rfl) (Opd.of_base 138 rfl) rfl) (by kernel_rfl) (by decide) h ?_
  clear h
  intro a w h
  refine env_one (i := 5) (d := 143) (k := .val (.bool false)) (step_nT3_2 (by kernel_rfl) (Opd.of_base 138 rfl) (by kernel_rfl)) (by kernel_rfl) (by decide) h ?_
  clear h
  intro a w h
  have h := h.cast 142 rfl
  refine env_box3 (i := 6) (d := 11) (e := 10) (by kernel_rfl) (by decide) (by kernel_rfl) (by decide) (x := 141) rfl (by decide) (by decide) (by kernel_rfl) (by decide) (by decide) (s := 142) rfl h ?_
  clear h
  intro a w h
  refine env_one (i := 9) (d := 12) (k := .val (.bool false)) (step_assign (by kernel_rfl) (Opd.of_base 143 rfl) rfl) (by kernel_rfl) (by decide) h ?_
  clear h
  intro a w h
  exact hQ a w (h.keep [0, 990, 4, 6, 7, 9, 11, 12])
theorem lKnown13a_region {Q : Exit → Act → World → Prop}   {w0 : World} {a : Act} {w : World} (h : Hold 295 [(0, .val (.bool false)), (990, .sat (gP 0 none)), (4, .val (.bool false)), (6, .val (.bool false)), (7, .val (.int .i64 (Bl.code (1, 255, ByteArray.empty) .nil).1)), (9, .val (.bool true)), (11, .ptrT (((Bl.code (2, 0, ⟨#[97]⟩) .nil).2.1).1) (((Bl.code (2, 0, ⟨#[97]⟩) .nil).2.1).2)), (12, .val (.bool false))] w0 a w)
    (hQ : ∀ a' w', Hold 295 [(0, .val (.bool false)), (990, .sat (gP 0 none)), (4, .val (.bool false)), (6, .val (.bool false)), (7, .val (.int .i64 (Bl.code (1, 255, ByteArray.empty) .nil).1)), (9, .val (.bool true)), (11, .ptrT (((Bl.code (2, 0, ⟨#[97]⟩) .nil).2.1).1) (((Bl.code (2, 0, ⟨#[97]⟩) .nil).2.1).2)), (12, .val (.bool false)), (13, .val (.int .i64 (Bl.char (2, 0, ⟨#[255]⟩) .nil).1)), (15, .val (.bool true))] w0 a' w' → Q .normal a' w') : (Code.region 13 lKnown13Ops false).wp Try.prog Q a w := by
  refine region_seq (w0 := w) 10 (by kernel_rfl) ?_
  rw [show List.range 10 = [0, 1, 2, 3, 4, 5, 6, 7, 8, 9] from rfl]
  refine env_one (i := 0) (d := 145) (k := .sat (nT 0 none (2, 0, ⟨#[255]⟩) .nil)) (step_la (g := 990) (by kernel_rfl) (Opd.const _) (Opd.of_base 990 rfl) rfl) (by kernel_rfl) (by decide) h ?_
  clear h
  intro a w h
  refine env_one (i := 1) (d := 146) (k := .sat (nT3 0 none (.int .i64 (Bl.char (2, 0, ⟨#[255]⟩) .nil).1) (((Bl.char (2, 0, ⟨#[255]⟩) .nil).2.1).1) (((Bl.char (2, 0, ⟨#[255]⟩) .nil).2.1).2) ((Bl.char (2, 0, ⟨#[255]⟩) .nil).2.2))) (step_bChar (g := 990) (by kernel_rfl) (Opd.ofT (Opd.of_base 145 rfl)) (Opd.of_base 990 rfl) rfl) (by kernel_rfl) (by decide) h ?_
  clear h
  intro a w h
  refine env_one (i := 2) (d := 144) (k := .sat (nT3 0 none (.int .i64 (Bl.char (2, 0, ⟨#[255]⟩) .nil).1) (((Bl.char (2, 0, ⟨#[255]⟩) .nil).2.1).1) (((Bl.char (2, 0, ⟨#[255]⟩) .nil).2.1).2) ((Bl.char (2, 0, ⟨#[255]⟩) .nil).2.2))) (step_move (by kernel_rfl) (Opd.of_base 146 rfl) rfl) (by kernel_rfl) (by decide) h ?_
  clear h
  intro a w h
  refine env_one (i := 3) (d := 147) (k := .val (.int .i64 (Bl.char (2, 0, ⟨#[255]⟩) .nil).1)) (step_nT3_0 (by kernel_rfl) (Opd.of_base 144 rfl) rfl) (by kernel_rfl) (by decide) h ?_
  clear h
  intro a w h
  refine env_one (i := 4) (d := 148) (k := .sat (nT 0 none (((Bl.char (2, 0, ⟨#[255]⟩) .nil).2.1).1) (((Bl.char (2, 0, ⟨#[255]⟩) .nil).2.1).2))) (step_nT3_1 (by kernel_rfl) (Opd.of_base 144 rfl) rfl) (by kernel_rfl) (by decide) h ?_
  clear h
  intro a w h
  refine env_one (i := 5) (d := 149) (k := .val (.bool true)) (step_nT3_2 (by kernel_rfl) (Opd.of_base 144 rfl) (by kernel_rfl)) (by kernel_rfl) (by decide) h ?_
  clear h
  intro a w h
  have h := h.cast 148 rfl
  refine env_box3 (i := 6) (d := 14) (e := 13) (by kernel_rfl) (by decide) (by kernel_rfl) (by decide) (x := 147) rfl (by decide) (by decide) (by kernel_rfl) (by decide) (by decide) (s := 148) rfl h ?_
  clear h
  intro a w h
  refine env_one (i := 9) (d := 15) (k := .val (.bool true)) (step_assign (by kernel_rfl) (Opd.of_base 149 rfl) rfl) (by kernel_rfl) (by decide) h ?_
  clear h
  intro a w h
  exact hQ a w (h.keep [0, 990, 4, 6, 7, 9, 11, 12, 13, 15])
theorem lKnown14a_region {Q : Exit → Act → World → Prop}   {w0 : World} {a : Act} {w : World} (h : Hold 295 [(0, .val (.bool false)), (990, .sat (gP 0 none)), (4, .val (.bool false)), (6, .val (.bool false)), (7, .val (.int .i64 (Bl.code (1, 255, ByteArray.empty) .nil).1)), (9, .val (.bool true)), (11, .ptrT (((Bl.code (2, 0, ⟨#[97]⟩) .nil).2.1).1) (((Bl.code (2, 0, ⟨#[97]⟩) .nil).2.1).2)), (12, .val (.bool false)), (13, .val (.int .i64 (Bl.char (2, 0, ⟨#[255]⟩) .nil).1)), (15, .val (.bool true))] w0 a w)
    (hQ : ∀ a' w', Hold 295 [(0, .val (.bool false)), (990, .sat (gP 0 none)), (4, .val (.bool false)), (6, .val (.bool false)), (7, .val (.int .i64 (Bl.code (1, 255, ByteArray.empty) .nil).1)), (9, .val (.bool true)), (11, .ptrT (((Bl.code (2, 0, ⟨#[97]⟩) .nil).2.1).1) (((Bl.code (2, 0, ⟨#[97]⟩) .nil).2.1).2)), (12, .val (.bool false)), (13, .val (.int .i64 (Bl.char (2, 0, ⟨#[255]⟩) .nil).1)), (15, .val (.bool true)), (17, .ptrT (((Bl.char (2, 0, ⟨#[]⟩) .nil).2.1).1) (((Bl.char (2, 0, ⟨#[]⟩) .nil).2.1).2)), (18, .val (.bool false))] w0 a' w' → Q .normal a' w') : (Code.region 14 lKnown14Ops false).wp Try.prog Q a w := by
  refine region_seq (w0 := w) 10 (by kernel_rfl) ?_
  rw [show List.range 10 = [0, 1, 2, 3, 4, 5, 6, 7, 8, 9] from rfl]
  refine env_one (i := 0) (d := 151) (k := .sat (nT 0 none (2, 0, ⟨#[]⟩) .nil)) (step_la (g := 990) (by kernel_rfl) (Opd.const _) (Opd.of_base 990 rfl) rfl) (by kernel_rfl) (by decide) h ?_
  clear h
  intro a w h
  refine env_one (i := 1) (d := 152) (k := .sat (nT3 0 none (.int .i64 (Bl.char (2, 0, ⟨#[]⟩) .nil).1) (((Bl.char (2, 0, ⟨#[]⟩) .nil).2.1).1) (((Bl.char (2, 0, ⟨#[]⟩) .nil).2.1).2) ((Bl.char (2, 0, ⟨#[]⟩) .nil).2.2))) (step_bChar (g := 990) (by kernel_rfl) (Opd.ofT (Opd.of_base 151 rfl)) (Opd.of_base 990 rfl) rfl) (by kernel_rfl) (by decide) h ?_
  clear h
  intro a w h
  refine env_one (i := 2) (d := 150) (k := .sat (nT3 0 none (.int .i64 (Bl.char (2, 0, ⟨#[]⟩) .nil).1) (((Bl.char (2, 0, ⟨#[]⟩) .nil).2.1).1) (((Bl.char (2, 0, ⟨#[]⟩) .nil).2.1).2) ((Bl.char (2, 0, ⟨#[]⟩) .nil).2.2))) (step_move (by kernel_rfl) (Opd.of_base 152 rfl) rfl) (by kernel_rfl) (by decide) h ?_
  clear h
  intro a w h
  refine env_one (i := 3) (d := 153) (k := .val (.int .i64 (Bl.char (2, 0, ⟨#[]⟩) .nil).1)) (step_nT3_0 (by kernel_rfl) (Opd.of_base 150 rfl) rfl) (by kernel_rfl) (by decide) h ?_
  clear h
  intro a w h
  refine env_one (i := 4) (d := 154) (k := .sat (nT 0 none (((Bl.char (2, 0, ⟨#[]⟩) .nil).2.1).1) (((Bl.char (2, 0, ⟨#[]⟩) .nil).2.1).2))) (step_nT3_1 (by kernel_rfl) (Opd.of_base 150 rfl) rfl) (by kernel_rfl) (by decide) h ?_
  clear h
  intro a w h
  refine env_one (i := 5) (d := 155) (k := .val (.bool false)) (step_nT3_2 (by kernel_rfl) (Opd.of_base 150 rfl) (by kernel_rfl)) (by kernel_rfl) (by decide) h ?_
  clear h
  intro a w h
  have h := h.cast 154 rfl
  refine env_box3 (i := 6) (d := 17) (e := 16) (by kernel_rfl) (by decide) (by kernel_rfl) (by decide) (x := 153) rfl (by decide) (by decide) (by kernel_rfl) (by decide) (by decide) (s := 154) rfl h ?_
  clear h
  intro a w h
  refine env_one (i := 9) (d := 18) (k := .val (.bool false)) (step_assign (by kernel_rfl) (Opd.of_base 155 rfl) rfl) (by kernel_rfl) (by decide) h ?_
  clear h
  intro a w h
  exact hQ a w (h.keep [0, 990, 4, 6, 7, 9, 11, 12, 13, 15, 17, 18])
theorem lKnown15a_region {Q : Exit → Act → World → Prop}   {w0 : World} {a : Act} {w : World} (h : Hold 295 [(0, .val (.bool false)), (990, .sat (gP 0 none)), (4, .val (.bool false)), (6, .val (.bool false)), (7, .val (.int .i64 (Bl.code (1, 255, ByteArray.empty) .nil).1)), (9, .val (.bool true)), (11, .ptrT (((Bl.code (2, 0, ⟨#[97]⟩) .nil).2.1).1) (((Bl.code (2, 0, ⟨#[97]⟩) .nil).2.1).2)), (12, .val (.bool false)), (13, .val (.int .i64 (Bl.char (2, 0, ⟨#[255]⟩) .nil).1)), (15, .val (.bool true)), (17, .ptrT (((Bl.char (2, 0, ⟨#[]⟩) .nil).2.1).1) (((Bl.char (2, 0, ⟨#[]⟩) .nil).2.1).2)), (18, .val (.bool false))] w0 a w)
    (hQ : ∀ a' w', Hold 295 [(0, .val (.bool false)), (990, .sat (gP 0 none)), (4, .val (.bool false)), (6, .val (.bool false)), (7, .val (.int .i64 (Bl.code (1, 255, ByteArray.empty) .nil).1)), (9, .val (.bool true)), (11, .ptrT (((Bl.code (2, 0, ⟨#[97]⟩) .nil).2.1).1) (((Bl.code (2, 0, ⟨#[97]⟩) .nil).2.1).2)), (12, .val (.bool false)), (13, .val (.int .i64 (Bl.char (2, 0, ⟨#[255]⟩) .nil).1)), (15, .val (.bool true)), (17, .ptrT (((Bl.char (2, 0, ⟨#[]⟩) .nil).2.1).1) (((Bl.char (2, 0, ⟨#[]⟩) .nil).2.1).2)), (18, .val (.bool false)), (20, .ptrT (((Bl.list (3, 0, ⟨#[46]⟩) knF7).2.1).1) (((Bl.list (3, 0, ⟨#[46]⟩) knF7).2.1).2)), (21, .val (.bool false))] w0 a' w' → Q .normal a' w') : (Code.region 15 lKnown15Ops false).wp Try.prog Q a w := by
  refine region_seq (w0 := w) 16 (by kernel_rfl) ?_
  rw [show List.range 16 = [0, 1, 2, 3, 4, 5, 6, 7, 8, 9, 10, 11, 12, 13, 14, 15] from rfl]
  refine env_one (i := 0) (d := 157) (k := .sat (nT 0 none (2, 0, ⟨#[97]⟩) .nil)) (step_la (g := 990) (by kernel_rfl) (Opd.const _) (Opd.of_base 990 rfl) rfl) (by kernel_rfl) (by decide) h ?_
  clear h
  intro a w h
  refine env_one (i := 1) (d := 158) (k := .sat (nT 0 none (2, 0, ⟨#[98]⟩) .nil)) (step_la (g := 990) (by kernel_rfl) (Opd.const _) (Opd.of_base 990 rfl) rfl) (by kernel_rfl) (by decide) h ?_
  clear h
  intro a w h
  refine env_one (i := 2) (d := 159) (k := .sat (nT 0 none (2, 0, ⟨#[99]⟩) .nil)) (step_la (g := 990) (by kernel_rfl) (Opd.const _) (Opd.of_base 990 rfl) rfl) (by kernel_rfl) (by decide) h ?_
  clear h
  intro a w h
  refine env_one (i := 3) (d := 160) (k := .sat (nK 0 none knF6)) (step_nslice2 (g := 990) (by kernel_rfl) (Opd.of_base 158 rfl) (Opd.of_base 159 rfl) (Opd.of_base 990 rfl) rfl) (by kernel_rfl) (by decide) h ?_
  clear h
  intro a w h
  refine env_one (i := 4) (d := 161) (k := .sat (nT 0 none (3, 0, ⟨#[46]⟩) knF6)) (step_lf (by kernel_rfl) (Opd.const _) (Opd.ofK (Opd.of_base 160 rfl)) rfl) (by kernel_rfl) (by decide) h ?_
  clear h
  intro a w h
  refine env_one (i := 5) (d := 162) (k := .sat (nK 0 none knF7)) (step_nslice2 (g := 990) (by kernel_rfl) (Opd.of_base 157 rfl) (Opd.of_base 161 rfl) (Opd.of_base 990 rfl) rfl) (by kernel_rfl) (by decide) h ?_
  clear h
  intro a w h
  refine env_one (i := 6) (d := 163) (k := .sat (nT 0 none (3, 0, ⟨#[46]⟩) knF7)) (step_lf (by kernel_rfl) (Opd.const _) (Opd.ofK (Opd.of_base 162 rfl)) rfl) (by kernel_rfl) (by decide) h ?_
  clear h
  intro a w h
  refine env_one (i := 7) (d := 164) (k := .sat (nL3 0 none ((Bl.list (3, 0, ⟨#[46]⟩) knF7).1) (((Bl.list (3, 0, ⟨#[46]⟩) knF7).2.1).1) (((Bl.list (3, 0, ⟨#[46]⟩) knF7).2.1).2) ((Bl.list (3, 0, ⟨#[46]⟩) knF7).2.2))) (step_bList (g := 990) (by kernel_rfl) (Opd.ofT (Opd.of_base 163 rfl)) (Opd.of_base 990 rfl) rfl) (by kernel_rfl) (by decide) h ?_
  clear h
  intro a w h
  refine env_one (i := 8) (d := 156) (k := .sat (nL3 0 none ((Bl.list (3, 0, ⟨#[46]⟩) knF7).1) (((Bl.list (3, 0, ⟨#[46]⟩) knF7).2.1).1) (((Bl.list (3, 0, ⟨#[46]⟩) knF7).2.1).2) ((Bl.list (3, 0, ⟨#[46]⟩) knF7).2.2))) (step_move (by kernel_rfl) (Opd.of_base 164 rfl) rfl) (by kernel_rfl) (by decide) h ?_
  clear h
  intro a w h
  refine env_one (i := 9) (d := 165) (k := .sat (nR 0 none ((Bl.list (3, 0, ⟨#[46]⟩) knF7).1))) (step_nL3_0 (by kernel_rfl) (Opd.of_base 156 rfl) rfl) (by kernel_rfl) (by decide) h ?_
  clear h
  intro a w h
  refine env_one (i := 10) (d := 166) (k := .sat (nT 0 none (((Bl.list (3, 0, ⟨#[46]⟩) knF7).2.1).1) (((Bl.list (3, 0, ⟨#[46]⟩) knF7).2.1).2))) (step_nL3_1 (by kernel_rfl) (Opd.of_base 156 rfl) rfl) (by kernel_rfl) (by decide) h ?_
  clear h
  intro a w h
  refine env_one (i := 11) (d := 167) (k := .val (.bool false)) (step_nL3_2 (by kernel_rfl) (Opd.of_base 156 rfl) (by kernel_rfl)) (by kernel_rfl) (by decide) h ?_
  clear h
  intro a w h
  have h := h.cast 166 rfl
  refine env_box3 (i := 12) (d := 20) (e := 19) (by kernel_rfl) (by decide) (by kernel_rfl) (by decide) (x := 165) rfl (by decide) (by decide) (by kernel_rfl) (by decide) (by decide) (s := 166) rfl h ?_
  clear h
  intro a w h
  refine env_one (i := 15) (d := 21) (k := .val (.bool false)) (step_assign (by kernel_rfl) (Opd.of_base 167 rfl) rfl) (by kernel_rfl) (by decide) h ?_
  clear h
  intro a w h
  exact hQ a w (h.keep [0, 990, 4, 6, 7, 9, 11, 12, 13, 15, 17, 18, 20, 21])
theorem lKnown16a_region {Q : Exit → Act → World → Prop}   {w0 : World} {a : Act} {w : World} (h : Hold 295 [(0, .val (.bool false)), (990, .sat (gP 0 none)), (4, .val (.bool false)), (6, .val (.bool false)), (7, .val (.int .i64 (Bl.code (1, 255, ByteArray.empty) .nil).1)), (9, .val (.bool true)), (11, .ptrT (((Bl.code (2, 0, ⟨#[97]⟩) .nil).2.1).1) (((Bl.code (2, 0, ⟨#[97]⟩) .nil).2.1).2)), (12, .val (.bool false)), (13, .val (.int .i64 (Bl.char (2, 0, ⟨#[255]⟩) .nil).1)), (15, .val (.bool true)), (17, .ptrT (((Bl.char (2, 0, ⟨#[]⟩) .nil).2.1).1) (((Bl.char (2, 0, ⟨#[]⟩) .nil).2.1).2)), (18, .val (.bool false)), (20, .ptrT (((Bl.list (3, 0, ⟨#[46]⟩) knF7).2.1).1) (((Bl.list (3, 0, ⟨#[46]⟩) knF7).2.1).2)), (21, .val (.bool false))] w0 a w)
    (hQ : ∀ a' w', Hold 295 [(0, .val (.bool false)), (990, .sat (gP 0 none)), (4, .val (.bool false)), (6, .val (.bool false)), (7, .val (.int .i64 (Bl.code (1, 255, ByteArray.empty) .nil).1)), (9, .val (.bool true)), (11, .ptrT (((Bl.code (2, 0, ⟨#[97]⟩) .nil).2.1).1) (((Bl.code (2, 0, ⟨#[97]⟩) .nil).2.1).2)), (12, .val (.bool false)), (13, .val (.int .i64 (Bl.char (2, 0, ⟨#[255]⟩) .nil).1)), (15, .val (.bool true)), (17, .ptrT (((Bl.char (2, 0, ⟨#[]⟩) .nil).2.1).1) (((Bl.char (2, 0, ⟨#[]⟩) .nil).2.1).2)), (18, .val (.bool false)), (20, .ptrT (((Bl.list (3, 0, ⟨#[46]⟩) knF7).2.1).1) (((Bl.list (3, 0, ⟨#[46]⟩) knF7).2.1).2)), (21, .val (.bool false)), (22, .sat (nR 0 none ((Bl.list (2, 0, (⟨#[91, 93]⟩)) .nil).1))), (24, .val (.bool true))] w0 a' w' → Q .normal a' w') : (Code.region 16 lKnown16Ops false).wp Try.prog Q a w := by
  refine region_seq (w0 := w) 10 (by kernel_rfl) ?_
  rw [show List.range 10 = [0, 1, 2, 3, 4, 5, 6, 7, 8, 9] from rfl]
  refine env_one (i := 0) (d := 169) (k := .sat (nT 0 none (2, 0, (⟨#[91, 93]⟩)) .nil)) (step_la (g := 990) (by kernel_rfl) (Opd.const _) (Opd.of_base 990 rfl) rfl) (by kernel_rfl) (by decide) h ?_
  clear h
  intro a w h
  refine env_one (i := 1) (d := 170) (k := .sat (nL3 0 none ((Bl.list (2, 0, (⟨#[91, 93]⟩)) .nil).1) (((Bl.list (2, 0, (⟨#[91, 93]⟩)) .nil).2.1).1) (((Bl.list (2, 0, (⟨#[91, 93]⟩)) .nil).2.1).2) ((Bl.list (2, 0, (⟨#[91, 93]⟩)) .nil).2.2))) (step_bList (g := 990) (by kernel_rfl) (Opd.ofT (Opd.of_base 169 rfl)) (Opd.of_base 990 rfl) rfl) (by kernel_rfl) (by decide) h ?_
  clear h
  intro a w h
  refine env_one (i := 2) (d := 168) (k := .sat (nL3 0 none ((Bl.list (2, 0, (⟨#[91, 93]⟩)) .nil).1) (((Bl.list (2, 0, (⟨#[91, 93]⟩)) .nil).2.1).1) (((Bl.list (2, 0, (⟨#[91, 93]⟩)) .nil).2.1).2) ((Bl.list (2, 0, (⟨#[91, 93]⟩)) .nil).2.2))) (step_move (by kernel_rfl) (Opd.of_base 170 rfl) rfl) (by kernel_rfl) (by decide) h ?_
  clear h
  intro a w h
  refine env_one (i := 3) (d := 171) (k := .sat (nR 0 none ((Bl.list (2, 0, (⟨#[91, 93]⟩)) .nil).1))) (step_nL3_0 (by kernel_rfl) (Opd.of_base 168 rfl) rfl) (by kernel_rfl) (by decide) h ?_
  clear h
  intro a w h
  refine env_one (i := 4) (d := 172) (k := .sat (nT 0 none (((Bl.list (2, 0, (⟨#[91, 93]⟩)) .nil).2.1).1) (((Bl.list (2, 0, (⟨#[91, 93]⟩)) .nil).2.1).2))) (step_nL3_1 (by kernel_rfl) (Opd.of_base 168 rfl) rfl) (by kernel_rfl) (by decide) h ?_
  clear h
  intro a w h
  refine env_one (i := 5) (d := 173) (k := .val (.bool true)) (step_nL3_2 (by kernel_rfl) (Opd.of_base 168 rfl) (by kernel_rfl)) (by kernel_rfl) (by decide) h ?_
  clear h
  intro a w h
  have h := h.cast 172 rfl
  refine env_box3 (i := 6) (d := 23) (e := 22) (by kernel_rfl) (by decide) (by kernel_rfl) (by decide) (x := 171) rfl (by decide) (by decide) (by kernel_rfl) (by decide) (by decide) (s := 172) rfl h ?_
  clear h
  intro a w h
  refine env_one (i := 9) (d := 24) (k := .val (.bool true)) (step_assign (by kernel_rfl) (Opd.of_base 173 rfl) rfl) (by kernel_rfl) (by decide) h ?_
  clear h
  intro a w h
  exact hQ a w (h.keep [0, 990, 4, 6, 7, 9, 11, 12, 13, 15, 17, 18, 20, 21, 22, 24])
theorem lKnown17a_region {Q : Exit → Act → World → Prop}   {w0 : World} {a : Act} {w : World} (h : Hold 295 [(0, .val (.bool false)), (990, .sat (gP 0 none)), (4, .val (.bool false)), (6, .val (.bool false)), (7, .val (.int .i64 (Bl.code (1, 255, ByteArray.empty) .nil).1)), (9, .val (.bool true)), (11, .ptrT (((Bl.code (2, 0, ⟨#[97]⟩) .nil).2.1).1) (((Bl.code (2, 0, ⟨#[97]⟩) .nil).2.1).2)), (12, .val (.bool false)), (13, .val (.int .i64 (Bl.char (2, 0, ⟨#[255]⟩) .nil).1)), (15, .val (.bool true)), (17, .ptrT (((Bl.char (2, 0, ⟨#[]⟩) .nil).2.1).1) (((Bl.char (2, 0, ⟨#[]⟩) .nil).2.1).2)), (18, .val (.bool false)), (20, .ptrT (((Bl.list (3, 0, ⟨#[46]⟩) knF7).2.1).1) (((Bl.list (3, 0, ⟨#[46]⟩) knF7).2.1).2)), (21, .val (.bool false)), (22, .sat (nR 0 none ((Bl.list (2, 0, (⟨#[91, 93]⟩)) .nil).1))), (24, .val (.bool true))] w0 a w)
    (hQ : ∀ a' w', Hold 295 [(0, .val (.bool false)), (990, .sat (gP 0 none)), (4, .val (.bool false)), (6, .val (.bool false)), (7, .val (.int .i64 (Bl.code (1, 255, ByteArray.empty) .nil).1)), (9, .val (.bool true)), (11, .ptrT (((Bl.code (2, 0, ⟨#[97]⟩) .nil).2.1).1) (((Bl.code (2, 0, ⟨#[97]⟩) .nil).2.1).2)), (12, .val (.bool false)), (13, .val (.int .i64 (Bl.char (2, 0, ⟨#[255]⟩) .nil).1)), (15, .val (.bool true)), (17, .ptrT (((Bl.char (2, 0, ⟨#[]⟩) .nil).2.1).1) (((Bl.char (2, 0, ⟨#[]⟩) .nil).2.1).2)), (18, .val (.bool false)), (20, .ptrT (((Bl.list (3, 0, ⟨#[46]⟩) knF7).2.1).1) (((Bl.list (3, 0, ⟨#[46]⟩) knF7).2.1).2)), (21, .val (.bool false)), (22, .sat (nR 0 none ((Bl.list (2, 0, (⟨#[91, 93]⟩)) .nil).1))), (24, .val (.bool true)), (27, .ptrT (((Bl.ind (3, 0, ⟨#[47]⟩) knF8).2.2.1).1) (((Bl.ind (3, 0, ⟨#[47]⟩) knF8).2.2.1).2)), (28, .val (.bool false))] w0 a' w' → Q .normal a' w') : (Code.region 17 lKnown17Ops false).wp Try.prog Q a w := by
  refine region_seq (w0 := w) 15 (by kernel_rfl) ?_
  rw [show List.range 15 = [0, 1, 2, 3, 4, 5, 6, 7, 8, 9, 10, 11, 12, 13, 14] from rfl]
  refine env_one (i := 0) (d := 175) (k := .sat (nT 0 none (1, 1, ByteArray.empty) .nil)) (step_ln (g := 990) (by kernel_rfl) (Opd.const _) (Opd.of_base 990 rfl) rfl) (by kernel_rfl) (by decide) h ?_
  clear h
  intro a w h
  refine env_one (i := 1) (d := 176) (k := .sat (nT 0 none (1, 2, ByteArray.empty) .nil)) (step_ln (g := 990) (by kernel_rfl) (Opd.const _) (Opd.of_base 990 rfl) rfl) (by kernel_rfl) (by decide) h ?_
  clear h
  intro a w h
  refine env_one (i := 2) (d := 177) (k := .sat (nK 0 none knF8)) (step_nslice2 (g := 990) (by kernel_rfl) (Opd.of_base 175 rfl) (Opd.of_base 176 rfl) (Opd.of_base 990 rfl) rfl) (by kernel_rfl) (by decide) h ?_
  clear h
  intro a w h
  refine env_one (i := 3) (d := 178) (k := .sat (nT 0 none (3, 0, ⟨#[47]⟩) knF8)) (step_lf (by kernel_rfl) (Opd.const _) (Opd.ofK (Opd.of_base 177 rfl)) rfl) (by kernel_rfl) (by decide) h ?_
  clear h
  intro a w h
  refine env_one (i := 4) (d := 179) (k := .sat (nT4 0 none (.string (Bl.ind (3, 0, ⟨#[47]⟩) knF8).1) (.int .i64 (Bl.ind (3, 0, ⟨#[47]⟩) knF8).2.1) (((Bl.ind (3, 0, ⟨#[47]⟩) knF8).2.2.1).1) (((Bl.ind (3, 0, ⟨#[47]⟩) knF8).2.2.1).2) ((Bl.ind (3, 0, ⟨#[47]⟩) knF8).2.2.2))) (step_bInd (g := 990) (by kernel_rfl) (Opd.ofT (Opd.of_base 178 rfl)) (Opd.of_base 990 rfl) rfl) (by kernel_rfl) (by decide) h ?_
  clear h
  intro a w h
  refine env_one (i := 5) (d := 174) (k := .sat (nT4 0 none (.string (Bl.ind (3, 0, ⟨#[47]⟩) knF8).1) (.int .i64 (Bl.ind (3, 0, ⟨#[47]⟩) knF8).2.1) (((Bl.ind (3, 0, ⟨#[47]⟩) knF8).2.2.1).1) (((Bl.ind (3, 0, ⟨#[47]⟩) knF8).2.2.1).2) ((Bl.ind (3, 0, ⟨#[47]⟩) knF8).2.2.2))) (step_move (by kernel_rfl) (Opd.of_base 179 rfl) rfl) (by kernel_rfl) (by decide) h ?_
  clear h
  intro a w h
  refine env_one (i := 6) (d := 180) (k := .val (.string (Bl.ind (3, 0, ⟨#[47]⟩) knF8).1)) (step_nT4_0 (by kernel_rfl) (Opd.of_base 174 rfl) rfl) (by kernel_rfl) (by decide) h ?_
  clear h
  intro a w h
  refine env_one (i := 7) (d := 181) (k := .val (.int .i64 (Bl.ind (3, 0, ⟨#[47]⟩) knF8).2.1)) (step_nT4_1 (by kernel_rfl) (Opd.of_base 174 rfl) rfl) (by kernel_rfl) (by decide) h ?_
  clear h
  intro a w h
  refine env_one (i := 8) (d := 182) (k := .sat (nT 0 none (((Bl.ind (3, 0, ⟨#[47]⟩) knF8).2.2.1).1) (((Bl.ind (3, 0, ⟨#[47]⟩) knF8).2.2.1).2))) (step_nT4_2 (by kernel_rfl) (Opd.of_base 174 rfl) rfl) (by kernel_rfl) (by decide) h ?_
  clear h
  intro a w h
  refine env_one (i := 9) (d := 183) (k := .val (.bool false)) (step_nT4_3 (by kernel_rfl) (Opd.of_base 174 rfl) (by kernel_rfl)) (by kernel_rfl) (by decide) h ?_
  clear h
  intro a w h
  have h := h.cast 182 rfl
  refine env_box5 (i := 10) (d := 27) (e := 25) (e2 := 26) (by kernel_rfl) (by decide) (by kernel_rfl) (by decide) (x := 180) rfl (by decide) (by decide) (by kernel_rfl) (by decide) (x2 := 181) rfl (by decide) (by decide) (by decide) (by kernel_rfl) (by decide) (by decide) (by decide) (s := 182) rfl h ?_
  clear h
  intro a w h
  refine env_one (i := 14) (d := 28) (k := .val (.bool false)) (step_assign (by kernel_rfl) (Opd.of_base 183 rfl) rfl) (by kernel_rfl) (by decide) h ?_
  clear h
  intro a w h
  exact hQ a w (h.keep [0, 990, 4, 6, 7, 9, 11, 12, 13, 15, 17, 18, 20, 21, 22, 24, 27, 28])
theorem lKnown18a_region {Q : Exit → Act → World → Prop}   {w0 : World} {a : Act} {w : World} (h : Hold 295 [(0, .val (.bool false)), (990, .sat (gP 0 none)), (4, .val (.bool false)), (6, .val (.bool false)), (7, .val (.int .i64 (Bl.code (1, 255, ByteArray.empty) .nil).1)), (9, .val (.bool true)), (11, .ptrT (((Bl.code (2, 0, ⟨#[97]⟩) .nil).2.1).1) (((Bl.code (2, 0, ⟨#[97]⟩) .nil).2.1).2)), (12, .val (.bool false)), (13, .val (.int .i64 (Bl.char (2, 0, ⟨#[255]⟩) .nil).1)), (15, .val (.bool true)), (17, .ptrT (((Bl.char (2, 0, ⟨#[]⟩) .nil).2.1).1) (((Bl.char (2, 0, ⟨#[]⟩) .nil).2.1).2)), (18, .val (.bool false)), (20, .ptrT (((Bl.list (3, 0, ⟨#[46]⟩) knF7).2.1).1) (((Bl.list (3, 0, ⟨#[46]⟩) knF7).2.1).2)), (21, .val (.bool false)), (22, .sat (nR 0 none ((Bl.list (2, 0, (⟨#[91, 93]⟩)) .nil).1))), (24, .val (.bool true)), (27, .ptrT (((Bl.ind (3, 0, ⟨#[47]⟩) knF8).2.2.1).1) (((Bl.ind (3, 0, ⟨#[47]⟩) knF8).2.2.1).2)), (28, .val (.bool false))] w0 a w)
    (hQ : ∀ a' w', Hold 295 [(0, .val (.bool false)), (990, .sat (gP 0 none)), (4, .val (.bool false)), (6, .val (.bool false)), (7, .val (.int .i64 (Bl.code (1, 255, ByteArray.empty) .nil).1)), (9, .val (.bool true)), (11, .ptrT (((Bl.code (2, 0, ⟨#[97]⟩) .nil).2.1).1) (((Bl.code (2, 0, ⟨#[97]⟩) .nil).2.1).2)), (12, .val (.bool false)), (13, .val (.int .i64 (Bl.char (2, 0, ⟨#[255]⟩) .nil).1)), (15, .val (.bool true)), (17, .ptrT (((Bl.char (2, 0, ⟨#[]⟩) .nil).2.1).1) (((Bl.char (2, 0, ⟨#[]⟩) .nil).2.1).2)), (18, .val (.bool false)), (20, .ptrT (((Bl.list (3, 0, ⟨#[46]⟩) knF7).2.1).1) (((Bl.list (3, 0, ⟨#[46]⟩) knF7).2.1).2)), (21, .val (.bool false)), (22, .sat (nR 0 none ((Bl.list (2, 0, (⟨#[91, 93]⟩)) .nil).1))), (24, .val (.bool true)), (27, .ptrT (((Bl.ind (3, 0, ⟨#[47]⟩) knF8).2.2.1).1) (((Bl.ind (3, 0, ⟨#[47]⟩) knF8).2.2.1).2)), (28, .val (.bool false)), (31, .ptrT (((Bl.ind (3, 0, ⟨#[47]⟩) knF9).2.2.1).1) (((Bl.ind (3, 0, ⟨#[47]⟩) knF9).2.2.1).2)), (32, .val (.bool false))] w0 a' w' → Q .normal a' w') : (Code.region 18 lKnown18Ops false).wp Try.prog Q a w := by
  refine region_seq (w0 := w) 15 (by kernel_rfl) ?_
  rw [show List.range 15 = [0, 1, 2, 3, 4, 5, 6, 7, 8, 9, 10, 11, 12, 13, 14] from rfl]
  refine env_one (i := 0) (d := 185) (k := .sat (nT 0 none (2, 0, ⟨#[102]⟩) .nil)) (step_la (g := 990) (by kernel_rfl) (Opd.const _) (Opd.of_base 990 rfl) rfl) (by kernel_rfl) (by decide) h ?_
  clear h
  intro a w h
  refine env_one (i := 1) (d := 186) (k := .sat (nT 0 none (1, 9, ByteArray.empty) .nil)) (step_ln (g := 990) (by kernel_rfl) (Opd.const _) (Opd.of_base 990 rfl) rfl) (by kernel_rfl) (by decide) h ?_
  clear h
  intro a w h
  refine env_one (i := 2) (d := 187) (k := .sat (nK 0 none knF9)) (step_nslice2 (g := 990) (by kernel_rfl) (Opd.of_base 185 rfl) (Opd.of_base 186 rfl) (Opd.of_base 990 rfl) rfl) (by kernel_rfl) (by decide) h ?_
  clear h
  intro a w h
  refine env_one (i := 3) (d := 188) (k := .sat (nT 0 none (3, 0, ⟨#[47]⟩) knF9)) (step_lf (by kernel_rfl) (Opd.const _) (Opd.ofK (Opd.of_base 187 rfl)) rfl) (by kernel_rfl) (by decide) h ?_
  clear h
  intro a w h
  refine env_one (i := 4) (d := 189) (k := .sat (nT4 0 none (.string (Bl.ind (3, 0, ⟨#[47]⟩) knF9).1) (.int .i64 (Bl.ind (3, 0, ⟨#[47]⟩) knF9).2.1) (((Bl.ind (3, 0, ⟨#[47]⟩) knF9).2.2.1).1) (((Bl.ind (3, 0, ⟨#[47]⟩) knF9).2.2.1).2) ((Bl.ind (3, 0, ⟨#[47]⟩) knF9).2.2.2))) (step_bInd (g := 990) (by kernel_rfl) (Opd.ofT (Opd.of_base 188 rfl)) (Opd.of_base 990 rfl) rfl) (by kernel_rfl) (by decide) h ?_
  clear h
  intro a w h
  refine env_one (i := 5) (d := 184) (k := .sat (nT4 0 none (.string (Bl.ind (3, 0, ⟨#[47]⟩) knF9).1) (.int .i64 (Bl.ind (3, 0, ⟨#[47]⟩) knF9).2.1) (((Bl.ind (3, 0, ⟨#[47]⟩) knF9).2.2.1).1) (((Bl.ind (3, 0, ⟨#[47]⟩) knF9).2.2.1).2) ((Bl.ind (3, 0, ⟨#[47]⟩) knF9).2.2.2))) (step_move (by kernel_rfl) (Opd.of_base 189 rfl) rfl) (by kernel_rfl) (by decide) h ?_
  clear h
  intro a w h
  refine env_one (i := 6) (d := 190) (k := .val (.string (Bl.ind (3, 0, ⟨#[47]⟩) knF9).1)) (step_nT4_0 (by kernel_rfl) (Opd.of_base 184 rfl) rfl) (by kernel_rfl) (by decide) h ?_
  clear h
  intro a w h
  refine env_one (i := 7) (d := 191) (k := .val (.int .i64 (Bl.ind (3, 0, ⟨#[47]⟩) knF9).2.1)) (step_nT4_1 (by kernel_rfl) (Opd.of_base 184 rfl) rfl) (by kernel_rfl) (by decide) h ?_
  clear h
  intro a w h
  refine env_one (i := 8) (d := 192) (k := .sat (nT 0 none (((Bl.ind (3, 0, ⟨#[47]⟩) knF9).2.2.1).1) (((Bl.ind (3, 0, ⟨#[47]⟩) knF9).2.2.1).2))) (step_nT4_2 (by kernel_rfl) (Opd.of_base 184 rfl) rfl) (by kernel_rfl) (by decide) h ?_
  clear h
  intro a w h
  refine env_one (i := 9) (d := 193) (k := .val (.bool false)) (step_nT4_3 (by kernel_rfl) (Opd.of_base 184 rfl) (by kernel_rfl)) (by kernel_rfl) (by decide) h ?_
  clear h
  intro a w h
  have h := h.cast 192 rfl
  refine env_box5 (i := 10) (d := 31) (e := 29) (e2 := 30) (by kernel_rfl) (by decide) (by kernel_rfl) (by decide) (x := 190) rfl (by decide) (by decide) (by kernel_rfl) (by decide) (x2 := 191) rfl (by decide) (by decide) (by decide) (by kernel_rfl) (by decide) (by decide) (by decide) (s := 192) rfl h ?_
  clear h
  intro a w h
  refine env_one (i := 14) (d := 32) (k := .val (.bool false)) (step_assign (by kernel_rfl) (Opd.of_base 193 rfl) rfl) (by kernel_rfl) (by decide) h ?_
  clear h
  intro a w h
  exact hQ a w (h.keep [0, 990, 4, 6, 7, 9, 11, 12, 13, 15, 17, 18, 20, 21, 22, 24, 27, 28, 31, 32])
def lKnown19aEs  : List Kd := [
  .val (.bool false),
  .val (.bool true),
  .val (.bool true),
  .val (.bool false),
  .val (.bool true),
  .val (.bool true),
  .val (.bool true),
  .val (.int .i64 (Bl.code (1, 255, ByteArray.empty) .nil).1),
  .val (.bool true),
  .val (.bool true),
  .val (.bool true),
  .val (.bool true),
  .val (.bool true),
  .val (.bool true),
  .val (.bool false),
  .val (.bool true),
  .val (.bool true),
  .val (.bool true),
  .term (((Bl.code (2, 0, ⟨#[97]⟩) .nil).2.1).1) (((Bl.code (2, 0, ⟨#[97]⟩) .nil).2.1).2),
  .sat (nT 0 none (2, 0, (⟨#[105, 110, 116, 101, 103, 101, 114]⟩)) .nil),
  .sat (nT 0 none (2, 0, ⟨#[97]⟩) .nil),
  .sat (nK 0 none knF10),
  .sat (nT 0 none (3, 0, ⟨#[116, 121, 112, 101, 95, 101, 114, 114, 111, 114]⟩) knF10),
  .sat (nT 0 none (3, 0, Tm.errName) (.node (3, 0, ⟨#[116, 121, 112, 101, 95, 101, 114, 114, 111, 114]⟩) knF10 (.node Tm.emptyA .nil .nil))),
  .val (.bool true),
  .val (.bool true),
  .val (.bool true),
  .val (.int .i64 (Bl.char (2, 0, ⟨#[255]⟩) .nil).1),
  .val (.bool true),
  .val (.bool true),
  .val (.bool true),
  .val (.bool true),
  .val (.bool true),
  .val (.bool true),
  .val (.bool false),
  .val (.bool true),
  .val (.bool true),
  .val (.bool true),
  .term (((Bl.char (2, 0, ⟨#[]⟩) .nil).2.1).1) (((Bl.char (2, 0, ⟨#[]⟩) .nil).2.1).2),
  .sat (nT 0 none (2, 0, (⟨#[99, 104, 97, 114, 97, 99, 116, 101, 114]⟩)) .nil),
  .sat (nT 0 none (2, 0, ⟨#[]⟩) .nil),
  .sat (nK 0 none knF11),
  .sat (nT 0 none (3, 0, ⟨#[116, 121, 112, 101, 95, 101, 114, 114, 111, 114]⟩) knF11),
  .sat (nT 0 none (3, 0, Tm.errName) (.node (3, 0, ⟨#[116, 121, 112, 101, 95, 101, 114, 114, 111, 114]⟩) knF11 (.node Tm.emptyA .nil .nil))),
  .val (.bool true),
  .val (.bool true),
  .val (.bool true),
  .val (.bool false),
  .val (.bool true),
  .val (.bool true),
  .val (.bool true),
  .term (((Bl.list (3, 0, ⟨#[46]⟩) knF7).2.1).1) (((Bl.list (3, 0, ⟨#[46]⟩) knF7).2.1).2),
  .sat (nT 0 none (2, 0, (⟨#[108, 105, 115, 116]⟩)) .nil),
  .sat (nT 0 none (2, 0, ⟨#[97]⟩) .nil),
  .sat (nT 0 none (2, 0, ⟨#[98]⟩) .nil),
  .sat (nT 0 none (2, 0, ⟨#[99]⟩) .nil),
  .sat (nK 0 none knF6),
  .sat (nT 0 none (3, 0, ⟨#[46]⟩) knF6),
  .sat (nK 0 none knF7),
  .sat (nT 0 none (3, 0, ⟨#[46]⟩) knF7),
  .sat (nK 0 none knF12),
  .sat (nT 0 none (3, 0, ⟨#[116, 121, 112, 101, 95, 101, 114, 114, 111, 114]⟩) knF12),
  .sat (nT 0 none (3, 0, Tm.errName) (.node (3, 0, ⟨#[116, 121, 112, 101, 95, 101, 114, 114, 111, 114]⟩) knF12 (.node Tm.emptyA .nil .nil))),
  .val (.bool true),
  .val (.bool true),
  .val (.bool true),
  .val (.bool true),
  .val (.bool true),
  .val (.bool true),
  .sat (nR 0 none ((Bl.list (2, 0, (⟨#[91, 93]⟩)) .nil).1)),
  .val (.int .i64 ((Tm.len ((Bl.list (2, 0, (⟨#[91, 93]⟩)) .nil).1) : Nat) : Int)),
  .val (.bool true),
  .val (.bool true),
  .val (.bool true),
  .val (.bool false),
  .val (.bool true),
  .val (.bool true),
  .val (.bool true),
  .term (((Bl.ind (3, 0, ⟨#[47]⟩) knF8).2.2.1).1) (((Bl.ind (3, 0, ⟨#[47]⟩) knF8).2.2.1).2),
  .sat (nT 0 none (2, 0, (⟨#[97, 116, 111, 109]⟩)) .nil),
  .sat (nT 0 none (1, 1, ByteArray.empty) .nil),
  .sat (nK 0 none knF13),
  .sat (nT 0 none (3, 0, ⟨#[116, 121, 112, 101, 95, 101, 114, 114, 111, 114]⟩) knF13),
  .sat (nT 0 none (3, 0, Tm.errName) (.node (3, 0, ⟨#[116, 121, 112, 101, 95, 101, 114, 114, 111, 114]⟩) knF13 (.node Tm.emptyA .nil .nil))),
  .val (.bool true),
  .val (.bool true),
  .val (.bool true),
  .val (.bool false),
  .val (.bool true),
  .val (.bool true),
  .val (.bool true),
  .term (((Bl.ind (3, 0, ⟨#[47]⟩) knF9).2.2.1).1) (((Bl.ind (3, 0, ⟨#[47]⟩) knF9).2.2.1).2),
  .sat (nT 0 none (2, 0, (⟨#[109, 97, 120, 95, 97, 114, 105, 116, 121]⟩)) .nil),
  .sat (nK 0 none knF14),
  .sat (nT 0 none (3, 0, ⟨#[114, 101, 112, 114, 101, 115, 101, 110, 116, 97, 116, 105, 111, 110, 95, 101, 114, 114, 111, 114]⟩) knF14),
  .sat (nT 0 none (3, 0, Tm.errName) (.node (3, 0, ⟨#[114, 101, 112, 114, 101, 115, 101, 110, 116, 97, 116, 105, 111, 110, 95, 101, 114, 114, 111, 114]⟩) knF14 (.node Tm.emptyA .nil .nil))),
  .val (.bool true),
  .val (.bool true),
  .val (.bool true),
  .val (.bool true),
  .val (.bool true),
  .val (.bool true)]
def lKnown19aDs : List Nat := [194, 195, 196, 197, 198, 199, 200, 201, 202, 203, 204, 205, 206, 207, 208, 209, 210, 211, 212, 213, 214, 215, 216, 217, 218, 219, 220, 221, 222, 223, 224, 225, 226, 227, 228, 229, 230, 231, 232, 233, 234, 235, 236, 237, 238, 239, 240, 241, 242, 243, 244, 245, 246, 247, 248, 249, 250, 251, 252, 253, 254, 255, 256, 257, 258, 259, 260, 261, 262, 263, 264, 265, 266, 267, 268, 269, 270, 271, 272, 273, 274, 275, 276, 277, 278, 279, 280, 281, 282, 283, 284, 285, 286, 287, 288, 289, 290, 291, 292, 293, 294, 0]
def lKnown19aEnv  : Env := [(990, .sat (gP 0 none)), (4, .val (.bool false)), (6, .val (.bool false)), (7, .val (.int .i64 (Bl.code (1, 255, ByteArray.empty) .nil).1)), (9, .val (.bool true)), (11, .ptrT (((Bl.code (2, 0, ⟨#[97]⟩) .nil).2.1).1) (((Bl.code (2, 0, ⟨#[97]⟩) .nil).2.1).2)), (12, .val (.bool false)), (13, .val (.int .i64 (Bl.char (2, 0, ⟨#[255]⟩) .nil).1)), (15, .val (.bool true)), (17, .ptrT (((Bl.char (2, 0, ⟨#[]⟩) .nil).2.1).1) (((Bl.char (2, 0, ⟨#[]⟩) .nil).2.1).2)), (18, .val (.bool false)), (20, .ptrT (((Bl.list (3, 0, ⟨#[46]⟩) knF7).2.1).1) (((Bl.list (3, 0, ⟨#[46]⟩) knF7).2.1).2)), (21, .val (.bool false)), (22, .sat (nR 0 none ((Bl.list (2, 0, (⟨#[91, 93]⟩)) .nil).1))), (24, .val (.bool true)), (27, .ptrT (((Bl.ind (3, 0, ⟨#[47]⟩) knF8).2.2.1).1) (((Bl.ind (3, 0, ⟨#[47]⟩) knF8).2.2.1).2)), (28, .val (.bool false)), (31, .ptrT (((Bl.ind (3, 0, ⟨#[47]⟩) knF9).2.2.1).1) (((Bl.ind (3, 0, ⟨#[47]⟩) knF9).2.2.1).2)), (32, .val (.bool false))]
theorem lKnown19a_0 {Q : Exit → Act → World → Prop}   : RStep (strip lKnown19Ops) Q (fun i => ((lKnown19aEs )[i]?).getD .any) (fun i => (lKnown19aDs[i]?).getD (1000 + i)) (look (lKnown19aEnv )) 295 0 := fun _ => step_move (by kernel_rfl) (Opd.of_base 4 rfl) rfl
theorem lKnown19a_1 {Q : Exit → Act → World → Prop}   : RStep (strip lKnown19Ops) Q (fun i => ((lKnown19aEs )[i]?).getD .any) (fun i => (lKnown19aDs[i]?).getD (1000 + i)) (look (lKnown19aEnv )) 295 1 := fun _ => step_not (by kernel_rfl) (Opd.dep 0 rfl rfl (by kernel_rfl)) rfl
theorem lKnown19a_2 {Q : Exit → Act → World → Prop}   : RStep (strip lKnown19Ops) Q (fun i => ((lKnown19aEs )[i]?).getD .any) (fun i => (lKnown19aDs[i]?).getD (1000 + i)) (look (lKnown19aEnv )) 295 2 := fun _ => step_move (by kernel_rfl) (Opd.dep 1 rfl rfl (by kernel_rfl)) rfl
theorem lKnown19a_3 {Q : Exit → Act → World → Prop}   : RStep (strip lKnown19Ops) Q (fun i => ((lKnown19aEs )[i]?).getD .any) (fun i => (lKnown19aDs[i]?).getD (1000 + i)) (look (lKnown19aEnv )) 295 3 := fun _ => step_move (by kernel_rfl) (Opd.of_base 6 rfl) rfl
theorem lKnown19a_4 {Q : Exit → Act → World → Prop}   : RStep (strip lKnown19Ops) Q (fun i => ((lKnown19aEs )[i]?).getD .any) (fun i => (lKnown19aDs[i]?).getD (1000 + i)) (look (lKnown19aEnv )) 295 4 := fun _ => step_not (by kernel_rfl) (Opd.dep 3 rfl rfl (by kernel_rfl)) rfl
theorem lKnown19a_5 {Q : Exit → Act → World → Prop}   : RStep (strip lKnown19Ops) Q (fun i => ((lKnown19aEs )[i]?).getD .any) (fun i => (lKnown19aDs[i]?).getD (1000 + i)) (look (lKnown19aEnv )) 295 5 := fun _ => step_pick_yes (y := .const (.bool false)) (by kernel_rfl) (Opd.dep 2 rfl rfl (by kernel_rfl)) (Opd.dep 4 rfl rfl (by kernel_rfl)) rfl
theorem lKnown19a_6 {Q : Exit → Act → World → Prop}   : RStep (strip lKnown19Ops) Q (fun i => ((lKnown19aEs )[i]?).getD .any) (fun i => (lKnown19aDs[i]?).getD (1000 + i)) (look (lKnown19aEnv )) 295 6 := fun _ => step_move (by kernel_rfl) (Opd.dep 5 rfl rfl (by kernel_rfl)) rfl
theorem lKnown19a_7 {Q : Exit → Act → World → Prop}   : RStep (strip lKnown19Ops) Q (fun i => ((lKnown19aEs )[i]?).getD .any) (fun i => (lKnown19aDs[i]?).getD (1000 + i)) (look (lKnown19aEnv )) 295 7 := fun _ => step_move (by kernel_rfl) (Opd.of_base 7 rfl) rfl
theorem lKnown19a_8 {Q : Exit → Act → World → Prop}   : RStep (strip lKnown19Ops) Q (fun i => ((lKnown19aEs )[i]?).getD .any) (fun i => (lKnown19aDs[i]?).getD (1000 + i)) (look (lKnown19aEnv )) 295 8 := fun _ => step_eqb_int (m := (Bl.code (1, 255, ByteArray.empty) .nil).1) (n := 255) (by kernel_rfl) (Opd.dep 7 rfl rfl (by kernel_rfl)) (Opd.const _) (by kernel_rfl) rfl
theorem lKnown19a_9 {Q : Exit → Act → World → Prop}   : RStep (strip lKnown19Ops) Q (fun i => ((lKnown19aEs )[i]?).getD .any) (fun i => (lKnown19aDs[i]?).getD (1000 + i)) (look (lKnown19aEnv )) 295 9 := fun _ => step_pick_yes (y := .const (.bool false)) (by kernel_rfl) (Opd.dep 6 rfl rfl (by kernel_rfl)) (Opd.dep 8 rfl rfl (by kernel_rfl)) rfl
theorem lKnown19a_10 {Q : Exit → Act → World → Prop}   : RStep (strip lKnown19Ops) Q (fun i => ((lKnown19aEs )[i]?).getD .any) (fun i => (lKnown19aDs[i]?).getD (1000 + i)) (look (lKnown19aEnv )) 295 10 := fun _ => step_move (by kernel_rfl) (Opd.dep 9 rfl rfl (by kernel_rfl)) rfl
theorem lKnown19a_11 {Q : Exit → Act → World → Prop}   : RStep (strip lKnown19Ops) Q (fun i => ((lKnown19aEs )[i]?).getD .any) (fun i => (lKnown19aDs[i]?).getD (1000 + i)) (look (lKnown19aEnv )) 295 11 := fun _ => step_move (by kernel_rfl) (Opd.of_base 9 rfl) rfl
theorem lKnown19a_12 {Q : Exit → Act → World → Prop}   : RStep (strip lKnown19Ops) Q (fun i => ((lKnown19aEs )[i]?).getD .any) (fun i => (lKnown19aDs[i]?).getD (1000 + i)) (look (lKnown19aEnv )) 295 12 := fun _ => step_pick_yes (y := .const (.bool false)) (by kernel_rfl) (Opd.dep 10 rfl rfl (by kernel_rfl)) (Opd.dep 11 rfl rfl (by kernel_rfl)) rfl
theorem lKnown19a_13 {Q : Exit → Act → World → Prop}   : RStep (strip lKnown19Ops) Q (fun i => ((lKnown19aEs )[i]?).getD .any) (fun i => (lKnown19aDs[i]?).getD (1000 + i)) (look (lKnown19aEnv )) 295 13 := fun _ => step_move (by kernel_rfl) (Opd.dep 12 rfl rfl (by kernel_rfl)) rfl
theorem lKnown19a_14 {Q : Exit → Act → World → Prop}   : RStep (strip lKnown19Ops) Q (fun i => ((lKnown19aEs )[i]?).getD .any) (fun i => (lKnown19aDs[i]?).getD (1000 + i)) (look (lKnown19aEnv )) 295 14 := fun _ => step_move (by kernel_rfl) (Opd.of_base 12 rfl) rfl
theorem lKnown19a_15 {Q : Exit → Act → World → Prop}   : RStep (strip lKnown19Ops) Q (fun i => ((lKnown19aEs )[i]?).getD .any) (fun i => (lKnown19aDs[i]?).getD (1000 + i)) (look (lKnown19aEnv )) 295 15 := fun _ => step_not (by kernel_rfl) (Opd.dep 14 rfl rfl (by kernel_rfl)) rfl
theorem lKnown19a_16 {Q : Exit → Act → World → Prop}   : RStep (strip lKnown19Ops) Q (fun i => ((lKnown19aEs )[i]?).getD .any) (fun i => (lKnown19aDs[i]?).getD (1000 + i)) (look (lKnown19aEnv )) 295 16 := fun _ => step_pick_yes (y := .const (.bool false)) (by kernel_rfl) (Opd.dep 13 rfl rfl (by kernel_rfl)) (Opd.dep 15 rfl rfl (by kernel_rfl)) rfl
theorem lKnown19a_17 {Q : Exit → Act → World → Prop}   : RStep (strip lKnown19Ops) Q (fun i => ((lKnown19aEs )[i]?).getD .any) (fun i => (lKnown19aDs[i]?).getD (1000 + i)) (look (lKnown19aEnv )) 295 17 := fun _ => step_move (by kernel_rfl) (Opd.dep 16 rfl rfl (by kernel_rfl)) rfl
theorem lKnown19a_18 {Q : Exit → Act → World → Prop}   : RStep (strip lKnown19Ops) Q (fun i => ((lKnown19aEs )[i]?).getD .any) (fun i => (lKnown19aDs[i]?).getD (1000 + i)) (look (lKnown19aEnv )) 295 18 := fun _ => step_load_term (by kernel_rfl) (Opd.of_base 11 rfl) rfl
theorem lKnown19a_19 {Q : Exit → Act → World → Prop}   : RStep (strip lKnown19Ops) Q (fun i => ((lKnown19aEs )[i]?).getD .any) (fun i => (lKnown19aDs[i]?).getD (1000 + i)) (look (lKnown19aEnv )) 295 19 := fun _ => step_la (g := 990) (by kernel_rfl) (Opd.const _) (Opd.of_base 990 rfl) rfl
theorem lKnown19a_20 {Q : Exit → Act → World → Prop}   : RStep (strip lKnown19Ops) Q (fun i => ((lKnown19aEs )[i]?).getD .any) (fun i => (lKnown19aDs[i]?).getD (1000 + i)) (look (lKnown19aEnv )) 295 20 := fun _ => step_la (g := 990) (by kernel_rfl) (Opd.const _) (Opd.of_base 990 rfl) rfl
theorem lKnown19a_21 {Q : Exit → Act → World → Prop}   : RStep (strip lKnown19Ops) Q (fun i => ((lKnown19aEs )[i]?).getD .any) (fun i => (lKnown19aDs[i]?).getD (1000 + i)) (look (lKnown19aEnv )) 295 21 := fun _ => step_nslice2 (g := 990) (by kernel_rfl) (Opd.dep 19 rfl rfl (by kernel_rfl)) (Opd.dep 20 rfl rfl (by kernel_rfl)) (Opd.of_base 990 rfl) rfl
theorem lKnown19a_22 {Q : Exit → Act → World → Prop}   : RStep (strip lKnown19Ops) Q (fun i => ((lKnown19aEs )[i]?).getD .any) (fun i => (lKnown19aDs[i]?).getD (1000 + i)) (look (lKnown19aEnv )) 295 22 := fun _ => step_lf (by kernel_rfl) (Opd.const _) (Opd.ofK (Opd.dep 21 rfl rfl (by kernel_rfl))) rfl
theorem lKnown19a_23 {Q : Exit → Act → World → Prop}   : RStep (strip lKnown19Ops) Q (fun i => ((lKnown19aEs )[i]?).getD .any) (fun i => (lKnown19aDs[i]?).getD (1000 + i)) (look (lKnown19aEnv )) 295 23 := fun _ => step_lerrN (g := 990) (by kernel_rfl) (Opd.dep 22 rfl rfl (by kernel_rfl)) (Opd.of_base 990 rfl) rfl
theorem lKnown19a_24 {Q : Exit → Act → World → Prop}   : RStep (strip lKnown19Ops) Q (fun i => ((lKnown19aEs )[i]?).getD .any) (fun i => (lKnown19aDs[i]?).getD (1000 + i)) (look (lKnown19aEnv )) 295 24 := fun _ => step_lsame (by kernel_rfl) (Opd.dep 18 rfl rfl (by kernel_rfl)) (Opd.ofT (Opd.dep 23 rfl rfl (by kernel_rfl))) (by kernel_rfl)
theorem lKnown19a_25 {Q : Exit → Act → World → Prop}   : RStep (strip lKnown19Ops) Q (fun i => ((lKnown19aEs )[i]?).getD .any) (fun i => (lKnown19aDs[i]?).getD (1000 + i)) (look (lKnown19aEnv )) 295 25 := fun _ => step_pick_yes (y := .const (.bool false)) (by kernel_rfl) (Opd.dep 17 rfl rfl (by kernel_rfl)) (Opd.dep 24 rfl rfl (by kernel_rfl)) rfl
theorem lKnown19a_26 {Q : Exit → Act → World → Prop}   : RStep (strip lKnown19Ops) Q (fun i => ((lKnown19aEs )[i]?).getD .any) (fun i => (lKnown19aDs[i]?).getD (1000 + i)) (look (lKnown19aEnv )) 295 26 := fun _ => step_move (by kernel_rfl) (Opd.dep 25 rfl rfl (by kernel_rfl)) rfl
theorem lKnown19a_27 {Q : Exit → Act → World → Prop}   : RStep (strip lKnown19Ops) Q (fun i => ((lKnown19aEs )[i]?).getD .any) (fun i => (lKnown19aDs[i]?).getD (1000 + i)) (look (lKnown19aEnv )) 295 27 := fun _ => step_move (by kernel_rfl) (Opd.of_base 13 rfl) rfl
theorem lKnown19a_28 {Q : Exit → Act → World → Prop}   : RStep (strip lKnown19Ops) Q (fun i => ((lKnown19aEs )[i]?).getD .any) (fun i => (lKnown19aDs[i]?).getD (1000 + i)) (look (lKnown19aEnv )) 295 28 := fun _ => step_eqb_int (m := (Bl.char (2, 0, ⟨#[255]⟩) .nil).1) (n := 255) (by kernel_rfl) (Opd.dep 27 rfl rfl (by kernel_rfl)) (Opd.const _) (by kernel_rfl) rfl
theorem lKnown19a_29 {Q : Exit → Act → World → Prop}   : RStep (strip lKnown19Ops) Q (fun i => ((lKnown19aEs )[i]?).getD .any) (fun i => (lKnown19aDs[i]?).getD (1000 + i)) (look (lKnown19aEnv )) 295 29 := fun _ => step_pick_yes (y := .const (.bool false)) (by kernel_rfl) (Opd.dep 26 rfl rfl (by kernel_rfl)) (Opd.dep 28 rfl rfl (by kernel_rfl)) rfl
theorem lKnown19a_30 {Q : Exit → Act → World → Prop}   : RStep (strip lKnown19Ops) Q (fun i => ((lKnown19aEs )[i]?).getD .any) (fun i => (lKnown19aDs[i]?).getD (1000 + i)) (look (lKnown19aEnv )) 295 30 := fun _ => step_move (by kernel_rfl) (Opd.dep 29 rfl rfl (by kernel_rfl)) rfl
theorem lKnown19a_31 {Q : Exit → Act → World → Prop}   : RStep (strip lKnown19Ops) Q (fun i => ((lKnown19aEs )[i]?).getD .any) (fun i => (lKnown19aDs[i]?).getD (1000 + i)) (look (lKnown19aEnv )) 295 31 := fun _ => step_move (by kernel_rfl) (Opd.of_base 15 rfl) rfl
theorem lKnown19a_32 {Q : Exit → Act → World → Prop}   : RStep (strip lKnown19Ops) Q (fun i => ((lKnown19aEs )[i]?).getD .any) (fun i => (lKnown19aDs[i]?).getD (1000 + i)) (look (lKnown19aEnv )) 295 32 := fun _ => step_pick_yes (y := .const (.bool false)) (by kernel_rfl) (Opd.dep 30 rfl rfl (by kernel_rfl)) (Opd.dep 31 rfl rfl (by kernel_rfl)) rfl
theorem lKnown19a_33 {Q : Exit → Act → World → Prop}   : RStep (strip lKnown19Ops) Q (fun i => ((lKnown19aEs )[i]?).getD .any) (fun i => (lKnown19aDs[i]?).getD (1000 + i)) (look (lKnown19aEnv )) 295 33 := fun _ => step_move (by kernel_rfl) (Opd.dep 32 rfl rfl (by kernel_rfl)) rfl
theorem lKnown19a_34 {Q : Exit → Act → World → Prop}   : RStep (strip lKnown19Ops) Q (fun i => ((lKnown19aEs )[i]?).getD .any) (fun i => (lKnown19aDs[i]?).getD (1000 + i)) (look (lKnown19aEnv )) 295 34 := fun _ => step_move (by kernel_rfl) (Opd.of_base 18 rfl) rfl
theorem lKnown19a_35 {Q : Exit → Act → World → Prop}   : RStep (strip lKnown19Ops) Q (fun i => ((lKnown19aEs )[i]?).getD .any) (fun i => (lKnown19aDs[i]?).getD (1000 + i)) (look (lKnown19aEnv )) 295 35 := fun _ => step_not (by kernel_rfl) (Opd.dep 34 rfl rfl (by kernel_rfl)) rfl
theorem lKnown19a_36 {Q : Exit → Act → World → Prop}   : RStep (strip lKnown19Ops) Q (fun i => ((lKnown19aEs )[i]?).getD .any) (fun i => (lKnown19aDs[i]?).getD (1000 + i)) (look (lKnown19aEnv )) 295 36 := fun _ => step_pick_yes (y := .const (.bool false)) (by kernel_rfl) (Opd.dep 33 rfl rfl (by kernel_rfl)) (Opd.dep 35 rfl rfl (by kernel_rfl)) rfl
theorem lKnown19a_37 {Q : Exit → Act → World → Prop}   : RStep (strip lKnown19Ops) Q (fun i => ((lKnown19aEs )[i]?).getD .any) (fun i => (lKnown19aDs[i]?).getD (1000 + i)) (look (lKnown19aEnv )) 295 37 := fun _ => step_move (by kernel_rfl) (Opd.dep 36 rfl rfl (by kernel_rfl)) rfl
theorem lKnown19a_38 {Q : Exit → Act → World → Prop}   : RStep (strip lKnown19Ops) Q (fun i => ((lKnown19aEs )[i]?).getD .any) (fun i => (lKnown19aDs[i]?).getD (1000 + i)) (look (lKnown19aEnv )) 295 38 := fun _ => step_load_term (by kernel_rfl) (Opd.of_base 17 rfl) rfl
theorem lKnown19a_39 {Q : Exit → Act → World → Prop}   : RStep (strip lKnown19Ops) Q (fun i => ((lKnown19aEs )[i]?).getD .any) (fun i => (lKnown19aDs[i]?).getD (1000 + i)) (look (lKnown19aEnv )) 295 39 := fun _ => step_la (g := 990) (by kernel_rfl) (Opd.const _) (Opd.of_base 990 rfl) rfl
theorem lKnown19a_40 {Q : Exit → Act → World → Prop}   : RStep (strip lKnown19Ops) Q (fun i => ((lKnown19aEs )[i]?).getD .any) (fun i => (lKnown19aDs[i]?).getD (1000 + i)) (look (lKnown19aEnv )) 295 40 := fun _ => step_la (g := 990) (by kernel_rfl) (Opd.const _) (Opd.of_base 990 rfl) rfl
theorem lKnown19a_41 {Q : Exit → Act → World → Prop}   : RStep (strip lKnown19Ops) Q (fun i => ((lKnown19aEs )[i]?).getD .any) (fun i => (lKnown19aDs[i]?).getD (1000 + i)) (look (lKnown19aEnv )) 295 41 := fun _ => step_nslice2 (g := 990) (by kernel_rfl) (Opd.dep 39 rfl rfl (by kernel_rfl)) (Opd.dep 40 rfl rfl (by kernel_rfl)) (Opd.of_base 990 rfl) rfl
theorem lKnown19a_42 {Q : Exit → Act → World → Prop}   : RStep (strip lKnown19Ops) Q (fun i => ((lKnown19aEs )[i]?).getD .any) (fun i => (lKnown19aDs[i]?).getD (1000 + i)) (look (lKnown19aEnv )) 295 42 := fun _ => step_lf (by kernel_rfl) (Opd.const _) (Opd.ofK (Opd.dep 41 rfl rfl (by kernel_rfl))) rfl
theorem lKnown19a_43 {Q : Exit → Act → World → Prop}   : RStep (strip lKnown19Ops) Q (fun i => ((lKnown19aEs )[i]?).getD .any) (fun i => (lKnown19aDs[i]?).getD (1000 + i)) (look (lKnown19aEnv )) 295 43 := fun _ => step_lerrN (g := 990) (by kernel_rfl) (Opd.dep 42 rfl rfl (by kernel_rfl)) (Opd.of_base 990 rfl) rfl
theorem lKnown19a_44 {Q : Exit → Act → World → Prop}   : RStep (strip lKnown19Ops) Q (fun i => ((lKnown19aEs )[i]?).getD .any) (fun i => (lKnown19aDs[i]?).getD (1000 + i)) (look (lKnown19aEnv )) 295 44 := fun _ => step_lsame (by kernel_rfl) (Opd.dep 38 rfl rfl (by kernel_rfl)) (Opd.ofT (Opd.dep 43 rfl rfl (by kernel_rfl))) (by kernel_rfl)
theorem lKnown19a_45 {Q : Exit → Act → World → Prop}   : RStep (strip lKnown19Ops) Q (fun i => ((lKnown19aEs )[i]?).getD .any) (fun i => (lKnown19aDs[i]?).getD (1000 + i)) (look (lKnown19aEnv )) 295 45 := fun _ => step_pick_yes (y := .const (.bool false)) (by kernel_rfl) (Opd.dep 37 rfl rfl (by kernel_rfl)) (Opd.dep 44 rfl rfl (by kernel_rfl)) rfl
theorem lKnown19a_46 {Q : Exit → Act → World → Prop}   : RStep (strip lKnown19Ops) Q (fun i => ((lKnown19aEs )[i]?).getD .any) (fun i => (lKnown19aDs[i]?).getD (1000 + i)) (look (lKnown19aEnv )) 295 46 := fun _ => step_move (by kernel_rfl) (Opd.dep 45 rfl rfl (by kernel_rfl)) rfl
theorem lKnown19a_47 {Q : Exit → Act → World → Prop}   : RStep (strip lKnown19Ops) Q (fun i => ((lKnown19aEs )[i]?).getD .any) (fun i => (lKnown19aDs[i]?).getD (1000 + i)) (look (lKnown19aEnv )) 295 47 := fun _ => step_move (by kernel_rfl) (Opd.of_base 21 rfl) rfl
theorem lKnown19a_48 {Q : Exit → Act → World → Prop}   : RStep (strip lKnown19Ops) Q (fun i => ((lKnown19aEs )[i]?).getD .any) (fun i => (lKnown19aDs[i]?).getD (1000 + i)) (look (lKnown19aEnv )) 295 48 := fun _ => step_not (by kernel_rfl) (Opd.dep 47 rfl rfl (by kernel_rfl)) rfl
theorem lKnown19a_49 {Q : Exit → Act → World → Prop}   : RStep (strip lKnown19Ops) Q (fun i => ((lKnown19aEs )[i]?).getD .any) (fun i => (lKnown19aDs[i]?).getD (1000 + i)) (look (lKnown19aEnv )) 295 49 := fun _ => step_pick_yes (y := .const (.bool false)) (by kernel_rfl) (Opd.dep 46 rfl rfl (by kernel_rfl)) (Opd.dep 48 rfl rfl (by kernel_rfl)) rfl
theorem lKnown19a_50 {Q : Exit → Act → World → Prop}   : RStep (strip lKnown19Ops) Q (fun i => ((lKnown19aEs )[i]?).getD .any) (fun i => (lKnown19aDs[i]?).getD (1000 + i)) (look (lKnown19aEnv )) 295 50 := fun _ => step_move (by kernel_rfl) (Opd.dep 49 rfl rfl (by kernel_rfl)) rfl
theorem lKnown19a_51 {Q : Exit → Act → World → Prop}   : RStep (strip lKnown19Ops) Q (fun i => ((lKnown19aEs )[i]?).getD .any) (fun i => (lKnown19aDs[i]?).getD (1000 + i)) (look (lKnown19aEnv )) 295 51 := fun _ => step_load_term (by kernel_rfl) (Opd.of_base 20 rfl) rfl
theorem lKnown19a_52 {Q : Exit → Act → World → Prop}   : RStep (strip lKnown19Ops) Q (fun i => ((lKnown19aEs )[i]?).getD .any) (fun i => (lKnown19aDs[i]?).getD (1000 + i)) (look (lKnown19aEnv )) 295 52 := fun _ => step_la (g := 990) (by kernel_rfl) (Opd.const _) (Opd.of_base 990 rfl) rfl
theorem lKnown19a_53 {Q : Exit → Act → World → Prop}   : RStep (strip lKnown19Ops) Q (fun i => ((lKnown19aEs )[i]?).getD .any) (fun i => (lKnown19aDs[i]?).getD (1000 + i)) (look (lKnown19aEnv )) 295 53 := fun _ => step_la (g := 990) (by kernel_rfl) (Opd.const _) (Opd.of_base 990 rfl) rfl
theorem lKnown19a_54 {Q : Exit → Act → World → Prop}   : RStep (strip lKnown19Ops) Q (fun i => ((lKnown19aEs )[i]?).getD .any) (fun i => (lKnown19aDs[i]?).getD (1000 + i)) (look (lKnown19aEnv )) 295 54 := fun _ => step_la (g := 990) (by kernel_rfl) (Opd.const _) (Opd.of_base 990 rfl) rfl
theorem lKnown19a_55 {Q : Exit → Act → World → Prop}   : RStep (strip lKnown19Ops) Q (fun i => ((lKnown19aEs )[i]?).getD .any) (fun i => (lKnown19aDs[i]?).getD (1000 + i)) (look (lKnown19aEnv )) 295 55 := fun _ => step_la (g := 990) (by kernel_rfl) (Opd.const _) (Opd.of_base 990 rfl) rfl
theorem lKnown19a_56 {Q : Exit → Act → World → Prop}   : RStep (strip lKnown19Ops) Q (fun i => ((lKnown19aEs )[i]?).getD .any) (fun i => (lKnown19aDs[i]?).getD (1000 + i)) (look (lKnown19aEnv )) 295 56 := fun _ => step_nslice2 (g := 990) (by kernel_rfl) (Opd.dep 54 rfl rfl (by kernel_rfl)) (Opd.dep 55 rfl rfl (by kernel_rfl)) (Opd.of_base 990 rfl) rfl
theorem lKnown19a_57 {Q : Exit → Act → World → Prop}   : RStep (strip lKnown19Ops) Q (fun i => ((lKnown19aEs )[i]?).getD .any) (fun i => (lKnown19aDs[i]?).getD (1000 + i)) (look (lKnown19aEnv )) 295 57 := fun _ => step_lf (by kernel_rfl) (Opd.const _) (Opd.ofK (Opd.dep 56 rfl rfl (by kernel_rfl))) rfl
theorem lKnown19a_58 {Q : Exit → Act → World → Prop}   : RStep (strip lKnown19Ops) Q (fun i => ((lKnown19aEs )[i]?).getD .any) (fun i => (lKnown19aDs[i]?).getD (1000 + i)) (look (lKnown19aEnv )) 295 58 := fun _ => step_nslice2 (g := 990) (by kernel_rfl) (Opd.dep 53 rfl rfl (by kernel_rfl)) (Opd.dep 57 rfl rfl (by kernel_rfl)) (Opd.of_base 990 rfl) rfl
theorem lKnown19a_59 {Q : Exit → Act → World → Prop}   : RStep (strip lKnown19Ops) Q (fun i => ((lKnown19aEs )[i]?).getD .any) (fun i => (lKnown19aDs[i]?).getD (1000 + i)) (look (lKnown19aEnv )) 295 59 := fun _ => step_lf (by kernel_rfl) (Opd.const _) (Opd.ofK (Opd.dep 58 rfl rfl (by kernel_rfl))) rfl
theorem lKnown19a_60 {Q : Exit → Act → World → Prop}   : RStep (strip lKnown19Ops) Q (fun i => ((lKnown19aEs )[i]?).getD .any) (fun i => (lKnown19aDs[i]?).getD (1000 + i)) (look (lKnown19aEnv )) 295 60 := fun _ => step_nslice2 (g := 990) (by kernel_rfl) (Opd.dep 52 rfl rfl (by kernel_rfl)) (Opd.dep 59 rfl rfl (by kernel_rfl)) (Opd.of_base 990 rfl) rfl
theorem lKnown19a_61 {Q : Exit → Act → World → Prop}   : RStep (strip lKnown19Ops) Q (fun i => ((lKnown19aEs )[i]?).getD .any) (fun i => (lKnown19aDs[i]?).getD (1000 + i)) (look (lKnown19aEnv )) 295 61 := fun _ => step_lf (by kernel_rfl) (Opd.const _) (Opd.ofK (Opd.dep 60 rfl rfl (by kernel_rfl))) rfl
theorem lKnown19a_62 {Q : Exit → Act → World → Prop}   : RStep (strip lKnown19Ops) Q (fun i => ((lKnown19aEs )[i]?).getD .any) (fun i => (lKnown19aDs[i]?).getD (1000 + i)) (look (lKnown19aEnv )) 295 62 := fun _ => step_lerrN (g := 990) (by kernel_rfl) (Opd.dep 61 rfl rfl (by kernel_rfl)) (Opd.of_base 990 rfl) rfl
theorem lKnown19a_63 {Q : Exit → Act → World → Prop}   : RStep (strip lKnown19Ops) Q (fun i => ((lKnown19aEs )[i]?).getD .any) (fun i => (lKnown19aDs[i]?).getD (1000 + i)) (look (lKnown19aEnv )) 295 63 := fun _ => step_lsame (by kernel_rfl) (Opd.dep 51 rfl rfl (by kernel_rfl)) (Opd.ofT (Opd.dep 62 rfl rfl (by kernel_rfl))) (by kernel_rfl)
theorem lKnown19a_64 {Q : Exit → Act → World → Prop}   : RStep (strip lKnown19Ops) Q (fun i => ((lKnown19aEs )[i]?).getD .any) (fun i => (lKnown19aDs[i]?).getD (1000 + i)) (look (lKnown19aEnv )) 295 64 := fun _ => step_pick_yes (y := .const (.bool false)) (by kernel_rfl) (Opd.dep 50 rfl rfl (by kernel_rfl)) (Opd.dep 63 rfl rfl (by kernel_rfl)) rfl
theorem lKnown19a_65 {Q : Exit → Act → World → Prop}   : RStep (strip lKnown19Ops) Q (fun i => ((lKnown19aEs )[i]?).getD .any) (fun i => (lKnown19aDs[i]?).getD (1000 + i)) (look (lKnown19aEnv )) 295 65 := fun _ => step_move (by kernel_rfl) (Opd.dep 64 rfl rfl (by kernel_rfl)) rfl
theorem lKnown19a_66 {Q : Exit → Act → World → Prop}   : RStep (strip lKnown19Ops) Q (fun i => ((lKnown19aEs )[i]?).getD .any) (fun i => (lKnown19aDs[i]?).getD (1000 + i)) (look (lKnown19aEnv )) 295 66 := fun _ => step_move (by kernel_rfl) (Opd.of_base 24 rfl) rfl
theorem lKnown19a_67 {Q : Exit → Act → World → Prop}   : RStep (strip lKnown19Ops) Q (fun i => ((lKnown19aEs )[i]?).getD .any) (fun i => (lKnown19aDs[i]?).getD (1000 + i)) (look (lKnown19aEnv )) 295 67 := fun _ => step_pick_yes (y := .const (.bool false)) (by kernel_rfl) (Opd.dep 65 rfl rfl (by kernel_rfl)) (Opd.dep 66 rfl rfl (by kernel_rfl)) rfl
theorem lKnown19a_68 {Q : Exit → Act → World → Prop}   : RStep (strip lKnown19Ops) Q (fun i => ((lKnown19aEs )[i]?).getD .any) (fun i => (lKnown19aDs[i]?).getD (1000 + i)) (look (lKnown19aEnv )) 295 68 := fun _ => step_move (by kernel_rfl) (Opd.dep 67 rfl rfl (by kernel_rfl)) rfl
theorem lKnown19a_69 {Q : Exit → Act → World → Prop}   : RStep (strip lKnown19Ops) Q (fun i => ((lKnown19aEs )[i]?).getD .any) (fun i => (lKnown19aDs[i]?).getD (1000 + i)) (look (lKnown19aEnv )) 295 69 := fun _ => step_move (by kernel_rfl) (Opd.of_base 22 rfl) rfl
theorem lKnown19a_70 {Q : Exit → Act → World → Prop}   : RStep (strip lKnown19Ops) Q (fun i => ((lKnown19aEs )[i]?).getD .any) (fun i => (lKnown19aDs[i]?).getD (1000 + i)) (look (lKnown19aEnv )) 295 70 := fun _ => step_len_row (by kernel_rfl) (Opd.ofR (Opd.dep 69 rfl rfl (by kernel_rfl))) rfl
theorem lKnown19a_71 {Q : Exit → Act → World → Prop}   : RStep (strip lKnown19Ops) Q (fun i => ((lKnown19aEs )[i]?).getD .any) (fun i => (lKnown19aDs[i]?).getD (1000 + i)) (look (lKnown19aEnv )) 295 71 := fun _ => step_eqb_int (m := ((Tm.len ((Bl.list (2, 0, (⟨#[91, 93]⟩)) .nil).1) : Nat) : Int)) (n := 0) (by kernel_rfl) (Opd.dep 70 rfl rfl (by kernel_rfl)) (Opd.const _) (by kernel_rfl) rfl
theorem lKnown19a_72 {Q : Exit → Act → World → Prop}   : RStep (strip lKnown19Ops) Q (fun i => ((lKnown19aEs )[i]?).getD .any) (fun i => (lKnown19aDs[i]?).getD (1000 + i)) (look (lKnown19aEnv )) 295 72 := fun _ => step_pick_yes (y := .const (.bool false)) (by kernel_rfl) (Opd.dep 68 rfl rfl (by kernel_rfl)) (Opd.dep 71 rfl rfl (by kernel_rfl)) rfl
theorem lKnown19a_73 {Q : Exit → Act → World → Prop}   : RStep (strip lKnown19Ops) Q (fun i => ((lKnown19aEs )[i]?).getD .any) (fun i => (lKnown19aDs[i]?).getD (1000 + i)) (look (lKnown19aEnv )) 295 73 := fun _ => step_move (by kernel_rfl) (Opd.dep 72 rfl rfl (by kernel_rfl)) rfl
theorem lKnown19a_74 {Q : Exit → Act → World → Prop}   : RStep (strip lKnown19Ops) Q (fun i => ((lKnown19aEs )[i]?).getD .any) (fun i => (lKnown19aDs[i]?).getD (1000 + i)) (look (lKnown19aEnv )) 295 74 := fun _ => step_move (by kernel_rfl) (Opd.of_base 28 rfl) rfl
theorem lKnown19a_75 {Q : Exit → Act → World → Prop}   : RStep (strip lKnown19Ops) Q (fun i => ((lKnown19aEs )[i]?).getD .any) (fun i => (lKnown19aDs[i]?).getD (1000 + i)) (look (lKnown19aEnv )) 295 75 := fun _ => step_not (by kernel_rfl) (Opd.dep 74 rfl rfl (by kernel_rfl)) rfl
theorem lKnown19a_76 {Q : Exit → Act → World → Prop}   : RStep (strip lKnown19Ops) Q (fun i => ((lKnown19aEs )[i]?).getD .any) (fun i => (lKnown19aDs[i]?).getD (1000 + i)) (look (lKnown19aEnv )) 295 76 := fun _ => step_pick_yes (y := .const (.bool false)) (by kernel_rfl) (Opd.dep 73 rfl rfl (by kernel_rfl)) (Opd.dep 75 rfl rfl (by kernel_rfl)) rfl
theorem lKnown19a_77 {Q : Exit → Act → World → Prop}   : RStep (strip lKnown19Ops) Q (fun i => ((lKnown19aEs )[i]?).getD .any) (fun i => (lKnown19aDs[i]?).getD (1000 + i)) (look (lKnown19aEnv )) 295 77 := fun _ => step_move (by kernel_rfl) (Opd.dep 76 rfl rfl (by kernel_rfl)) rfl
theorem lKnown19a_78 {Q : Exit → Act → World → Prop}   : RStep (strip lKnown19Ops) Q (fun i => ((lKnown19aEs )[i]?).getD .any) (fun i => (lKnown19aDs[i]?).getD (1000 + i)) (look (lKnown19aEnv )) 295 78 := fun _ => step_load_term (by kernel_rfl) (Opd.of_base 27 rfl) rfl
theorem lKnown19a_79 {Q : Exit → Act → World → Prop}   : RStep (strip lKnown19Ops) Q (fun i => ((lKnown19aEs )[i]?).getD .any) (fun i => (lKnown19aDs[i]?).getD (1000 + i)) (look (lKnown19aEnv )) 295 79 := fun _ => step_la (g := 990) (by kernel_rfl) (Opd.const _) (Opd.of_base 990 rfl) rfl
theorem lKnown19a_80 {Q : Exit → Act → World → Prop}   : RStep (strip lKnown19Ops) Q (fun i => ((lKnown19aEs )[i]?).getD .any) (fun i => (lKnown19aDs[i]?).getD (1000 + i)) (look (lKnown19aEnv )) 295 80 := fun _ => step_ln (g := 990) (by kernel_rfl) (Opd.const _) (Opd.of_base 990 rfl) rfl
theorem lKnown19a_81 {Q : Exit → Act → World → Prop}   : RStep (strip lKnown19Ops) Q (fun i => ((lKnown19aEs )[i]?).getD .any) (fun i => (lKnown19aDs[i]?).getD (1000 + i)) (look (lKnown19aEnv )) 295 81 := fun _ => step_nslice2 (g := 990) (by kernel_rfl) (Opd.dep 79 rfl rfl (by kernel_rfl)) (Opd.dep 80 rfl rfl (by kernel_rfl)) (Opd.of_base 990 rfl) rfl
theorem lKnown19a_82 {Q : Exit → Act → World → Prop}   : RStep (strip lKnown19Ops) Q (fun i => ((lKnown19aEs )[i]?).getD .any) (fun i => (lKnown19aDs[i]?).getD (1000 + i)) (look (lKnown19aEnv )) 295 82 := fun _ => step_lf (by kernel_rfl) (Opd.const _) (Opd.ofK (Opd.dep 81 rfl rfl (by kernel_rfl))) rfl
theorem lKnown19a_83 {Q : Exit → Act → World → Prop}   : RStep (strip lKnown19Ops) Q (fun i => ((lKnown19aEs )[i]?).getD .any) (fun i => (lKnown19aDs[i]?).getD (1000 + i)) (look (lKnown19aEnv )) 295 83 := fun _ => step_lerrN (g := 990) (by kernel_rfl) (Opd.dep 82 rfl rfl (by kernel_rfl)) (Opd.of_base 990 rfl) rfl
theorem lKnown19a_84 {Q : Exit → Act → World → Prop}   : RStep (strip lKnown19Ops) Q (fun i => ((lKnown19aEs )[i]?).getD .any) (fun i => (lKnown19aDs[i]?).getD (1000 + i)) (look (lKnown19aEnv )) 295 84 := fun _ => step_lsame (by kernel_rfl) (Opd.dep 78 rfl rfl (by kernel_rfl)) (Opd.ofT (Opd.dep 83 rfl rfl (by kernel_rfl))) (by kernel_rfl)
theorem lKnown19a_85 {Q : Exit → Act → World → Prop}   : RStep (strip lKnown19Ops) Q (fun i => ((lKnown19aEs )[i]?).getD .any) (fun i => (lKnown19aDs[i]?).getD (1000 + i)) (look (lKnown19aEnv )) 295 85 := fun _ => step_pick_yes (y := .const (.bool false)) (by kernel_rfl) (Opd.dep 77 rfl rfl (by kernel_rfl)) (Opd.dep 84 rfl rfl (by kernel_rfl)) rfl
theorem lKnown19a_86 {Q : Exit → Act → World → Prop}   : RStep (strip lKnown19Ops) Q (fun i => ((lKnown19aEs )[i]?).getD .any) (fun i => (lKnown19aDs[i]?).getD (1000 + i)) (look (lKnown19aEnv )) 295 86 := fun _ => step_move (by kernel_rfl) (Opd.dep 85 rfl rfl (by kernel_rfl)) rfl
theorem lKnown19a_87 {Q : Exit → Act → World → Prop}   : RStep (strip lKnown19Ops) Q (fun i => ((lKnown19aEs )[i]?).getD .any) (fun i => (lKnown19aDs[i]?).getD (1000 + i)) (look (lKnown19aEnv )) 295 87 := fun _ => step_move (by kernel_rfl) (Opd.of_base 32 rfl) rfl
theorem lKnown19a_88 {Q : Exit → Act → World → Prop}   : RStep (strip lKnown19Ops) Q (fun i => ((lKnown19aEs )[i]?).getD .any) (fun i => (lKnown19aDs[i]?).getD (1000 + i)) (look (lKnown19aEnv )) 295 88 := fun _ => step_not (by kernel_rfl) (Opd.dep 87 rfl rfl (by kernel_rfl)) rfl
theorem lKnown19a_89 {Q : Exit → Act → World → Prop}   : RStep (strip lKnown19Ops) Q (fun i => ((lKnown19aEs )[i]?).getD .any) (fun i => (lKnown19aDs[i]?).getD (1000 + i)) (look (lKnown19aEnv )) 295 89 := fun _ => step_pick_yes (y := .const (.bool false)) (by kernel_rfl) (Opd.dep 86 rfl rfl (by kernel_rfl)) (Opd.dep 88 rfl rfl (by kernel_rfl)) rfl
theorem lKnown19a_90 {Q : Exit → Act → World → Prop}   : RStep (strip lKnown19Ops) Q (fun i => ((lKnown19aEs )[i]?).getD .any) (fun i => (lKnown19aDs[i]?).getD (1000 + i)) (look (lKnown19aEnv )) 295 90 := fun _ => step_move (by kernel_rfl) (Opd.dep 89 rfl rfl (by kernel_rfl)) rfl
theorem lKnown19a_91 {Q : Exit → Act → World → Prop}   : RStep (strip lKnown19Ops) Q (fun i => ((lKnown19aEs )[i]?).getD .any) (fun i => (lKnown19aDs[i]?).getD (1000 + i)) (look (lKnown19aEnv )) 295 91 := fun _ => step_load_term (by kernel_rfl) (Opd.of_base 31 rfl) rfl
theorem lKnown19a_92 {Q : Exit → Act → World → Prop}   : RStep (strip lKnown19Ops) Q (fun i => ((lKnown19aEs )[i]?).getD .any) (fun i => (lKnown19aDs[i]?).getD (1000 + i)) (look (lKnown19aEnv )) 295 92 := fun _ => step_la (g := 990) (by kernel_rfl) (Opd.const _) (Opd.of_base 990 rfl) rfl
theorem lKnown19a_93 {Q : Exit → Act → World → Prop}   : RStep (strip lKnown19Ops) Q (fun i => ((lKnown19aEs )[i]?).getD .any) (fun i => (lKnown19aDs[i]?).getD (1000 + i)) (look (lKnown19aEnv )) 295 93 := fun _ => step_nslice1 (g := 990) (by kernel_rfl) (Opd.dep 92 rfl rfl (by kernel_rfl)) (Opd.of_base 990 rfl) rfl
theorem lKnown19a_94 {Q : Exit → Act → World → Prop}   : RStep (strip lKnown19Ops) Q (fun i => ((lKnown19aEs )[i]?).getD .any) (fun i => (lKnown19aDs[i]?).getD (1000 + i)) (look (lKnown19aEnv )) 295 94 := fun _ => step_lf (by kernel_rfl) (Opd.const _) (Opd.ofK (Opd.dep 93 rfl rfl (by kernel_rfl))) rfl
theorem lKnown19a_95 {Q : Exit → Act → World → Prop}   : RStep (strip lKnown19Ops) Q (fun i => ((lKnown19aEs )[i]?).getD .any) (fun i => (lKnown19aDs[i]?).getD (1000 + i)) (look (lKnown19aEnv )) 295 95 := fun _ => step_lerrN (g := 990) (by kernel_rfl) (Opd.dep 94 rfl rfl (by kernel_rfl)) (Opd.of_base 990 rfl) rfl
theorem lKnown19a_96 {Q : Exit → Act → World → Prop}   : RStep (strip lKnown19Ops) Q (fun i => ((lKnown19aEs )[i]?).getD .any) (fun i => (lKnown19aDs[i]?).getD (1000 + i)) (look (lKnown19aEnv )) 295 96 := fun _ => step_lsame (by kernel_rfl) (Opd.dep 91 rfl rfl (by kernel_rfl)) (Opd.ofT (Opd.dep 95 rfl rfl (by kernel_rfl))) (by kernel_rfl)
theorem lKnown19a_97 {Q : Exit → Act → World → Prop}   : RStep (strip lKnown19Ops) Q (fun i => ((lKnown19aEs )[i]?).getD .any) (fun i => (lKnown19aDs[i]?).getD (1000 + i)) (look (lKnown19aEnv )) 295 97 := fun _ => step_pick_yes (y := .const (.bool false)) (by kernel_rfl) (Opd.dep 90 rfl rfl (by kernel_rfl)) (Opd.dep 96 rfl rfl (by kernel_rfl)) rfl
theorem lKnown19a_98 {Q : Exit → Act → World → Prop}   : RStep (strip lKnown19Ops) Q (fun i => ((lKnown19aEs )[i]?).getD .any) (fun i => (lKnown19aDs[i]?).getD (1000 + i)) (look (lKnown19aEnv )) 295 98 := fun _ => step_move (by kernel_rfl) (Opd.dep 97 rfl rfl (by kernel_rfl)) rfl
theorem lKnown19a_99 {Q : Exit → Act → World → Prop}   : RStep (strip lKnown19Ops) Q (fun i => ((lKnown19aEs )[i]?).getD .any) (fun i => (lKnown19aDs[i]?).getD (1000 + i)) (look (lKnown19aEnv )) 295 99 := fun _ => step_awake (by kernel_rfl)  rfl
theorem lKnown19a_100 {Q : Exit → Act → World → Prop}   : RStep (strip lKnown19Ops) Q (fun i => ((lKnown19aEs )[i]?).getD .any) (fun i => (lKnown19aDs[i]?).getD (1000 + i)) (look (lKnown19aEnv )) 295 100 := fun _ => step_pick_yes (y := .const (.bool false)) (by kernel_rfl) (Opd.dep 98 rfl rfl (by kernel_rfl)) (Opd.dep 99 rfl rfl (by kernel_rfl)) rfl
theorem lKnown19a_101 {Q : Exit → Act → World → Prop}   : RStep (strip lKnown19Ops) Q (fun i => ((lKnown19aEs )[i]?).getD .any) (fun i => (lKnown19aDs[i]?).getD (1000 + i)) (look (lKnown19aEnv )) 295 101 := fun _ => step_assign (by kernel_rfl) (Opd.dep 100 rfl rfl (by kernel_rfl)) rfl
theorem lKnown19a_region {Q : Exit → Act → World → Prop}   {w0 : World} {a : Act} {w : World} (h : Hold 295 [(990, .sat (gP 0 none)), (4, .val (.bool false)), (6, .val (.bool false)), (7, .val (.int .i64 (Bl.code (1, 255, ByteArray.empty) .nil).1)), (9, .val (.bool true)), (11, .ptrT (((Bl.code (2, 0, ⟨#[97]⟩) .nil).2.1).1) (((Bl.code (2, 0, ⟨#[97]⟩) .nil).2.1).2)), (12, .val (.bool false)), (13, .val (.int .i64 (Bl.char (2, 0, ⟨#[255]⟩) .nil).1)), (15, .val (.bool true)), (17, .ptrT (((Bl.char (2, 0, ⟨#[]⟩) .nil).2.1).1) (((Bl.char (2, 0, ⟨#[]⟩) .nil).2.1).2)), (18, .val (.bool false)), (20, .ptrT (((Bl.list (3, 0, ⟨#[46]⟩) knF7).2.1).1) (((Bl.list (3, 0, ⟨#[46]⟩) knF7).2.1).2)), (21, .val (.bool false)), (22, .sat (nR 0 none ((Bl.list (2, 0, (⟨#[91, 93]⟩)) .nil).1))), (24, .val (.bool true)), (27, .ptrT (((Bl.ind (3, 0, ⟨#[47]⟩) knF8).2.2.1).1) (((Bl.ind (3, 0, ⟨#[47]⟩) knF8).2.2.1).2)), (28, .val (.bool false)), (31, .ptrT (((Bl.ind (3, 0, ⟨#[47]⟩) knF9).2.2.1).1) (((Bl.ind (3, 0, ⟨#[47]⟩) knF9).2.2.1).2)), (32, .val (.bool false))] w0 a w)
    (hQ : ∀ a' w', Hold 295 [(990, .sat (gP 0 none)), (0, .val (.bool true))] w0 a' w' → Q .normal a' w') : (Code.region 19 lKnown19Ops true).wp Try.prog Q a w := by
  have hall : ∀ i, i < 0 → RStep (strip lKnown19Ops) Q (fun i => ((lKnown19aEs )[i]?).getD .any) (fun i => (lKnown19aDs[i]?).getD (1000 + i)) (look (lKnown19aEnv )) 295 i := fun i hi => absurd hi (by omega)
  have hall := below_succ hall (lKnown19a_0  )
  have hall := below_succ hall (lKnown19a_1  )
  have hall := below_succ hall (lKnown19a_2  )
  have hall := below_succ hall (lKnown19a_3  )
  have hall := below_succ hall (lKnown19a_4  )
  have hall := below_succ hall (lKnown19a_5  )
  have hall := below_succ hall (lKnown19a_6  )
  have hall := below_succ hall (lKnown19a_7  )
  have hall := below_succ hall (lKnown19a_8  )
  have hall := below_succ hall (lKnown19a_9  )
  have hall := below_succ hall (lKnown19a_10  )
  have hall := below_succ hall (lKnown19a_11  )
  have hall := below_succ hall (lKnown19a_12  )
  have hall := below_succ hall (lKnown19a_13  )
  have hall := below_succ hall (lKnown19a_14  )
  have hall := below_succ hall (lKnown19a_15  )
  have hall := below_succ hall (lKnown19a_16  )
  have hall := below_succ hall (lKnown19a_17  )
  have hall := below_succ hall (lKnown19a_18  )
  have hall := below_succ hall (lKnown19a_19  )
  have hall := below_succ hall (lKnown19a_20  )
  have hall := below_succ hall (lKnown19a_21  )
  have hall := below_succ hall (lKnown19a_22  )
  have hall := below_succ hall (lKnown19a_23  )
  have hall := below_succ hall (lKnown19a_24  )
  have hall := below_succ hall (lKnown19a_25  )
  have hall := below_succ hall (lKnown19a_26  )
  have hall := below_succ hall (lKnown19a_27  )
  have hall := below_succ hall (lKnown19a_28  )
  have hall := below_succ hall (lKnown19a_29  )
  have hall := below_succ hall (lKnown19a_30  )
  have hall := below_succ hall (lKnown19a_31  )
  have hall := below_succ hall (lKnown19a_32  )
  have hall := below_succ hall (lKnown19a_33  )
  have hall := below_succ hall (lKnown19a_34  )
  have hall := below_succ hall (lKnown19a_35  )
  have hall := below_succ hall (lKnown19a_36  )
  have hall := below_succ hall (lKnown19a_37  )
  have hall := below_succ hall (lKnown19a_38  )
  have hall := below_succ hall (lKnown19a_39  )
  have hall := below_succ hall (lKnown19a_40  )
  have hall := below_succ hall (lKnown19a_41  )
  have hall := below_succ hall (lKnown19a_42  )
  have hall := below_succ hall (lKnown19a_43  )
  have hall := below_succ hall (lKnown19a_44  )
  have hall := below_succ hall (lKnown19a_45  )
  have hall := below_succ hall (lKnown19a_46  )
  have hall := below_succ hall (lKnown19a_47  )
  have hall := below_succ hall (lKnown19a_48  )
  have hall := below_succ hall (lKnown19a_49  )
  have hall := below_succ hall (lKnown19a_50  )
  have hall := below_succ hall (lKnown19a_51  )
  have hall := below_succ hall (lKnown19a_52  )
  have hall := below_succ hall (lKnown19a_53  )
  have hall := below_succ hall (lKnown19a_54  )
  have hall := below_succ hall (lKnown19a_55  )
  have hall := below_succ hall (lKnown19a_56  )
  have hall := below_succ hall (lKnown19a_57  )
  have hall := below_succ hall (lKnown19a_58  )
  have hall := below_succ hall (lKnown19a_59  )
  have hall := below_succ hall (lKnown19a_60  )
  have hall := below_succ hall (lKnown19a_61  )
  have hall := below_succ hall (lKnown19a_62  )
  have hall := below_succ hall (lKnown19a_63  )
  have hall := below_succ hall (lKnown19a_64  )
  have hall := below_succ hall (lKnown19a_65  )
  have hall := below_succ hall (lKnown19a_66  )
  have hall := below_succ hall (lKnown19a_67  )
  have hall := below_succ hall (lKnown19a_68  )
  have hall := below_succ hall (lKnown19a_69  )
  have hall := below_succ hall (lKnown19a_70  )
  have hall := below_succ hall (lKnown19a_71  )
  have hall := below_succ hall (lKnown19a_72  )
  have hall := below_succ hall (lKnown19a_73  )
  have hall := below_succ hall (lKnown19a_74  )
  have hall := below_succ hall (lKnown19a_75  )
  have hall := below_succ hall (lKnown19a_76  )
  have hall := below_succ hall (lKnown19a_77  )
  have hall := below_succ hall (lKnown19a_78  )
  have hall := below_succ hall (lKnown19a_79  )
  have hall := below_succ hall (lKnown19a_80  )
  have hall := below_succ hall (lKnown19a_81  )
  have hall := below_succ hall (lKnown19a_82  )
  have hall := below_succ hall (lKnown19a_83  )
  have hall := below_succ hall (lKnown19a_84  )
  have hall := below_succ hall (lKnown19a_85  )
  have hall := below_succ hall (lKnown19a_86  )
  have hall := below_succ hall (lKnown19a_87  )
  have hall := below_succ hall (lKnown19a_88  )
  have hall := below_succ hall (lKnown19a_89  )
  have hall := below_succ hall (lKnown19a_90  )
  have hall := below_succ hall (lKnown19a_91  )
  have hall := below_succ hall (lKnown19a_92  )
  have hall := below_succ hall (lKnown19a_93  )
  have hall := below_succ hall (lKnown19a_94  )
  have hall := below_succ hall (lKnown19a_95  )
  have hall := below_succ hall (lKnown19a_96  )
  have hall := below_succ hall (lKnown19a_97  )
  have hall := below_succ hall (lKnown19a_98  )
  have hall := below_succ hall (lKnown19a_99  )
  have hall := below_succ hall (lKnown19a_100  )
  have hall := below_succ hall (lKnown19a_101  )
  refine env_then (m := 102) (n := 102) lKnown19aDs (lKnown19aEs ) rfl (by kernel_rfl) (by decide) (by kernel_rfl) (of_decide_eq_true (by kernel_rfl)) (by kernel_rfl) (by kernel_rfl) (fun i_ hi_ => hall i_ hi_) h fun a w h => ?_
  clear hall
  have h := h.keep [990, 4, 6, 7, 9, 11, 12, 13, 15, 17, 18, 20, 21, 22, 24, 27, 28, 31, 32, 194, 195, 196, 197, 198, 199, 200, 201, 202, 203, 204, 205, 206, 207, 208, 209, 210, 211, 212, 213, 214, 215, 216, 217, 218, 219, 220, 221, 222, 223, 224, 225, 226, 227, 228, 229, 230, 231, 232, 233, 234, 235, 236, 237, 238, 239, 240, 241, 242, 243, 244, 245, 246, 247, 248, 249, 250, 251, 252, 253, 254, 255, 256, 257, 258, 259, 260, 261, 262, 263, 264, 265, 266, 267, 268, 269, 270, 271, 272, 273, 274, 275, 276, 277, 278, 279, 280, 281, 282, 283, 284, 285, 286, 287, 288, 289, 290, 291, 292, 293, 294, 0]
  show wpOps Try.prog _ Q [] a w
  exact hQ a w (h.keep [990, 0])
set_option maxHeartbeats 1000000 in
theorem lKnown_any  (w : World)   : Calls Try.prog 11 #[] w (fun e w' => e = .returned (.bool true) ∧ Below w.heap.size w w') := by
  refine calls_of_wp Try.func11 lKnown_body ?_
  have hsN : ((#[] : Array Value) ++ Array.replicate (Try.f11.ntmps - (#[] : Array Value).size) undef : Array Value).size = 295 := by kernel_rfl
  generalize ((#[] : Array Value) ++ Array.replicate (Try.f11.ntmps - (#[] : Array Value).size) undef : Array Value) = tm at hsN  ⊢
  obtain ⟨a, ha0⟩ : ∃ a : Act, a = ⟨tm, []⟩ := ⟨_, rfl⟩
  have h : Hold 295 [(990, .sat (gP 0 none))] w ⟨tm, []⟩ w := ⟨hsN, rfl, Below.refl _ _, (slots_cons 990 (k0 := .sat (gP 0 none)) ⟨Nat.zero_le _, fun r e => by cases e⟩ slots_nil)⟩
  refine wp_seq ?_
  refine lKnown0a_region   h ?_
  intro a w1 h
  show Code.wp _ _ _ a w1
  refine wp_seq ?_
  refine lKnown1a_region   h ?_
  intro a w1 h
  show Code.wp _ _ _ a w1
  refine wp_seq ?_
  refine wp_block ?_
  have h := h.keep [0, 1, 990]
  refine wp_for (n := 101) (fun ii a w1 => Hold 295 [(0, .val (.bool false)), (1, .val (.string (Bl.kstr ii))), (990, .sat (gP 0 none))] w a w1) h ?_ ?_
  · intro ii a w1 hi h
    have hlt : (((Bl.kstr ii).size : Nat) : Int) < 101 := by rw [Bl.kstr_size]; omega
    refine wp_seq ?_
    refine wp_seq ?_
    refine lKnown2a_region ii hlt h ?_
    intro a w1 h
    show Code.wp _ _ _ a w1
    refine env_cond (b := true) rfl h ?_
    refine wp_skip ?_
    have h := h.keep [0, 1, 990]
    show Code.wp _ _ _ a w1
    refine wp_block ?_
    refine lKnown3a_region ii hi h ?_
    intro a w1 h
    rw [Bl.kstr_succ] at h
    exact h.keep [0, 1, 990]
  · intro a w1 h
    have hlt : ¬ (((Bl.kstr 101).size : Nat) : Int) < 101 := by rw [Bl.kstr_size]; omega
    refine wp_seq ?_
    refine wp_seq ?_
    refine lKnown2b_region  hlt h ?_
    intro a w1 h
    show Code.wp _ _ _ a w1
    refine env_cond (b := false) rfl h ?_
    refine wp_exit ?_
    have h := h.keep [0, 1, 990]
    show Code.wp _ _ _ a w1
    refine wp_seq ?_
    refine lKnown4a_region   h ?_
    intro a w1 h
    show Code.wp _ _ _ a w1
    refine wp_seq ?_
    refine wp_seq ?_
    refine lKnown5a_region   h ?_
    intro a w1 h
    show Code.wp _ _ _ a w1
    refine env_cond (b := false) rfl h ?_
    refine wp_skip ?_
    have h := h.keep [0, 1, 990]
    show Code.wp _ _ _ a w1
    refine wp_seq ?_
    refine wp_seq ?_
    refine lKnown7a_region   h ?_
    intro a w1 h
    show Code.wp _ _ _ a w1
    refine env_cond (b := false) rfl h ?_
    refine wp_skip ?_
    have h := h.keep [0, 990]
    show Code.wp _ _ _ a w1
    refine wp_seq ?_
    refine lKnown9a_region   h ?_
    intro a w1 h
    show Code.wp _ _ _ a w1
    refine wp_seq ?_
    refine lKnown10a_region   h ?_
    intro a w1 h
    show Code.wp _ _ _ a w1
    refine wp_seq ?_
    refine lKnown11a_region   h ?_
    intro a w1 h
    show Code.wp _ _ _ a w1
    refine wp_seq ?_
    refine lKnown12a_region   h ?_
    intro a w1 h
    show Code.wp _ _ _ a w1
    refine wp_seq ?_
    refine lKnown13a_region   h ?_
    intro a w1 h
    show Code.wp _ _ _ a w1
    refine wp_seq ?_
    refine lKnown14a_region   h ?_
    intro a w1 h
    show Code.wp _ _ _ a w1
    refine wp_seq ?_
    refine lKnown15a_region   h ?_
    intro a w1 h
    show Code.wp _ _ _ a w1
    refine wp_seq ?_
    refine lKnown16a_region   h ?_
    intro a w1 h
    show Code.wp _ _ _ a w1
    refine wp_seq ?_
    refine lKnown17a_region   h ?_
    intro a w1 h
    show Code.wp _ _ _ a w1
    refine wp_seq ?_
    refine lKnown18a_region   h ?_
    intro a w1 h
    show Code.wp _ _ _ a w1
    refine wp_seq ?_
    have h := h.keep [990, 4, 6, 7, 9, 11, 12, 13, 15, 17, 18, 20, 21, 22, 24, 27, 28, 31, 32]
    refine lKnown19a_region   h ?_
    intro a w1 h
    show Code.wp _ _ _ a w1
    refine wp_ret ?_
    (try simp only [then_ret, block_ret])
    exact law_out rfl (h.get 0 rfl) h.defers ⟨rfl, h.world⟩
end Go.Proofs.Ytapcnehpechkpaa
