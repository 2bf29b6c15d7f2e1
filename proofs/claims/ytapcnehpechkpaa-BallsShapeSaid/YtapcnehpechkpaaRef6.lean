/-
  The reference's Formal.
-/
import Derived.Test.YtapcnehpechkpaaLaw6
namespace Go.Proofs.Ytapcnehpechkpaa
set_option linter.unusedVariables false
set_option linter.unusedSimpArgs false
set_option maxRecDepth 100000
open Go.RowKit
section
variable {ops : Array Oper} {Q : Exit → Act → World → Prop} {E : Nat → Kd} {D : Nat → Nat} {base : Nat → Option Kd} {N : Nat}
theorem step_ne_str {i : Nat} {x y : Operand} {s t : ByteArray} {b : Bool} (hop : (ops[i]?).map (·.op) = some (.binOp .neq 9 x y 9)) (hx : Opd ops E D base N i x (.val (.string s))) (hy : Opd ops E D base N i y (.val (.string t))) (hb : (!decide (s = t)) = b) (hE : E i = .val (.bool b)) : Step Try.prog ops Q E D base N i :=
  step_still hop hE fun a w h dst ty' pos after guard => by
    have e : a.eval x = .string s := hx a w h
    have e' : a.eval y = .string t := hy a w h
    refine ⟨.bool (!(s.toList == t.toList)), ?_, ?_⟩
    · unfold execOp
      simp only [e, e']
      go_simp
      try simp
    · rw [← hb, eqb_toList]
      rfl
end
namespace Bl
def rformal (p : Pay) (l : Fo) : (Pay × Fo) × Bool := if Tm.validB p l = true then (if isS p l ⟨#[101, 114, 114, 111, 114]⟩ 2 = true then (arg0 l, true) else ((zp, .nil), false)) else ((zp, .nil), false)
theorem isS_false {p : Pay} {l : Fo} {s : ByteArray} {k : Int} (h : ¬ (p.1 = 3 ∧ p.2.2 = s ∧ ((Tm.len l : Nat) : Int) = k)) : isS p l s k = false := decide_eq_false h
theorem isS_true {p : Pay} {l : Fo} {s : ByteArray} {k : Int} (h1 : p.1 = 3) (h2 : p.2.2 = s) (h3 : ((Tm.len l : Nat) : Int) = k) : isS p l s k = true := decide_eq_true ⟨h1, h2, h3⟩
theorem valid_arg0 {p : Pay} {l : Fo} (hv : Tm.validB p l = true) (hl : Tm.len l = 2) : Tm.validB (arg0 l).1 (arg0 l).2 = true := by
  obtain ⟨p0, l0, p1, l1, rfl⟩ := Tm.len_two hl
  unfold Tm.validB at hv ⊢
  rw [Bool.and_eq_true, decide_eq_true_eq] at hv ⊢
  obtain ⟨h1, h2⟩ := hv
  unfold Tm.goodB at h2
  simp only [Tm.allB_cons, Bool.and_eq_true] at h2
  simp only [Tm.size] at h1
  exact ⟨by show 1 + Tm.size l0 ≤ 2000; omega, h2.2.1⟩
theorem valid_arg1 {p : Pay} {l : Fo} (hv : Tm.validB p l = true) (hl : Tm.len l = 2) : Tm.validB (arg1 l).1 (arg1 l).2 = true := by
  obtain ⟨p0, l0, p1, l1, rfl⟩ := Tm.len_two hl
  unfold Tm.validB at hv ⊢
  rw [Bool.and_eq_true, decide_eq_true_eq] at hv ⊢
  obtain ⟨h1, h2⟩ := hv
  unfold Tm.goodB at h2
  simp only [Tm.allB_cons, Bool.and_eq_true] at h2
  simp only [Tm.size] at h1
  exact ⟨by show 1 + Tm.size l1 ≤ 2000; omega, h2.2.2.1⟩
theorem formal_eq (p : Pay) (l : Fo) : formal p l = rformal p l := by
  unfold formal rformal
  by_cases hv : Tm.validB p l = true
  · rw [if_pos hv, if_pos hv]
    by_cases hs : isS p l ⟨#[101, 114, 114, 111, 114]⟩ 2 = true
    · rw [if_pos hs, if_pos hs]
      have := valid_arg0 hv (isS_len hs)
      rw [Tm.cloneOf, if_pos this]
    · rw [if_neg hs, if_neg hs]
  · rw [if_neg hv, if_neg hv]
end Bl
noncomputable def rFormal0Ops : Array Oper := ((Try.f33.body).bind (findReg 0)).getD #[]
noncomputable def rFormal1Ops : Array Oper := ((Try.f33.body).bind (findReg 1)).getD #[]
noncomputable def rFormal2Ops : Array Oper := ((Try.f33.body).bind (findReg 2)).getD #[]
noncomputable def rFormal3Ops : Array Oper := ((Try.f33.body).bind (findReg 3)).getD #[]
theorem rFormal_body : Try.f33.body = some (.seq (.region 0 rFormal0Ops false) (.seq (.seq (.region 1 rFormal1Ops false) (.cond (.tmp 22) (.seq (.region 2 rFormal2Ops false) .ret) .skip)) (.seq (.region 3 rFormal3Ops false) .ret))) := by kernel_rfl
theorem rFormal0a_region {Q : Exit → Act → World → Prop} (p0 : Pay) (l0 : Fo)  {w0 : World} {a : Act} {w : World} (h : Hold 28 [(0, .term p0 l0)] w0 a w)
    (hQ : ∀ r a' w', w0.heap.size ≤ r → Hold 28 [(1, .sat (nP 0 (some r) p0 l0)), (2, .sat (rC 0 r zp .nil)), (990, .sat (gP 0 (some r))), (3, .val (.bool false))] w0 a' w' → Q .normal a' w') : (Code.region 0 rFormal0Ops false).wp Try.prog Q a w := by
  refine region_seq (w0 := w) 3 (by kernel_rfl) ?_
  rw [show List.range 3 = [0, 1, 2] from rfl]
  refine env_one (i := 0) (d := 1) (k := .ptrT p0 l0) (step_box (by kernel_rfl) (Opd.of_base 0 rfl) rfl) (by kernel_rfl) (by decide) h ?_
  clear h
  intro a w h
  refine env_res (i := 1) (d := 2) (n := 0) (fun r => [(0, .sat (nT 0 (some r) p0 l0)), (1, .sat (nP 0 (some r) p0 l0))]) (by kernel_rfl) (by decide) (by decide) (Nat.zero_le _) (fun r => (goes_cons 0 rfl (turns_term _ _ _) (goes_cons 1 rfl (turns_ptr _ _ _) (goes_nil _ _)))) h ?_
  clear h
  intro r a w hr h
  refine env_one (i := 2) (d := 3) (k := .val (.bool false)) (step_assign (by kernel_rfl) (Opd.const _) rfl) (by kernel_rfl) (by decide) h ?_
  clear h
  intro a w h
  exact hQ r a w hr (h.keep [1, 2, 990, 3])
theorem rFormal1a_region {Q : Exit → Act → World → Prop} (p0 : Pay) (l0 : Fo) (r : Nat) (hv : Tm.validB p0 l0 = false) {w0 : World} {a : Act} {w : World} (hr : w0.heap.size ≤ r) (h : Hold 28 [(1, .sat (nP 0 (some r) p0 l0)), (2, .sat (rC 0 r zp .nil)), (990, .sat (gP 0 (some r))), (3, .val (.bool false))] w0 a w)
    (hQ : ∀ a' w', Hold 28 [(1, .sat (nP 0 (some r) p0 l0)), (2, .sat (rC 0 r zp .nil)), (990, .sat (gP 0 (some r))), (3, .val (.bool false)), (22, .val (.bool true))] w0 a' w' → Q .normal a' w') : (Code.region 1 rFormal1Ops false).wp Try.prog Q a w := by
  refine region_seq (w0 := w) 19 (by kernel_rfl) ?_
  rw [show List.range 19 = [0, 1, 2, 3, 4, 5, 6, 7, 8, 9, 10, 11, 12, 13, 14, 15, 16, 17, 18] from rfl]
  refine env_one (i := 0) (d := 4) (k := .sat (nT 0 (some r) p0 l0)) (step_nload (by kernel_rfl) (Opd.of_base 1 rfl) rfl) (by kernel_rfl) (by decide) h ?_
  clear h
  intro a w h
  refine env_one (i := 1) (d := 5) (k := .val (.bool false)) (step_rvalid6 (by kernel_rfl) (Opd.ofT (Opd.of_base 4 rfl)) (by rw [hv]; rfl)) (by kernel_rfl) (by decide) h ?_
  clear h
  intro a w h
  refine env_one (i := 2) (d := 6) (k := .val (.bool true)) (step_not (by kernel_rfl) (Opd.of_base 5 rfl) rfl) (by kernel_rfl) (by decide) h ?_
  clear h
  intro a w h
  refine env_one (i := 3) (d := 7) (k := .val (.bool true)) (step_move (by kernel_rfl) (Opd.of_base 6 rfl) rfl) (by kernel_rfl) (by decide) h ?_
  clear h
  intro a w h
  refine env_skip (i := 4) (d := 8) (g := 3) (dg := 7) (b := false) (by kernel_rfl) (by decide) (by kernel_rfl) rfl rfl h ?_
  clear h
  intro a w h
  refine env_skip (i := 5) (d := 9) (g := 3) (dg := 7) (b := false) (by kernel_rfl) (by decide) (by kernel_rfl) rfl rfl h ?_
  clear h
  intro a w h
  refine env_skip (i := 6) (d := 10) (g := 3) (dg := 7) (b := false) (by kernel_rfl) (by decide) (by kernel_rfl) rfl rfl h ?_
  clear h
  intro a w h
  refine env_one (i := 7) (d := 11) (k := .val (.bool true)) (step_pick_yes (y := .tmp 10) (by kernel_rfl) (Opd.of_base 7 rfl) (Opd.const _) rfl) (by kernel_rfl) (by decide) h ?_
  clear h
  intro a w h
  refine env_one (i := 8) (d := 12) (k := .val (.bool true)) (step_move (by kernel_rfl) (Opd.of_base 11 rfl) rfl) (by kernel_rfl) (by decide) h ?_
  clear h
  intro a w h
  refine env_skip (i := 9) (d := 13) (g := 8) (dg := 12) (b := false) (by kernel_rfl) (by decide) (by kernel_rfl) rfl rfl h ?_
  clear h
  intro a w h
  refine env_skip (i := 10) (d := 14) (g := 8) (dg := 12) (b := false) (by kernel_rfl) (by decide) (by kernel_rfl) rfl rfl h ?_
  clear h
  intro a w h
  refine env_skip (i := 11) (d := 15) (g := 8) (dg := 12) (b := false) (by kernel_rfl) (by decide) (by kernel_rfl) rfl rfl h ?_
  clear h
  intro a w h
  refine env_one (i := 12) (d := 16) (k := .val (.bool true)) (step_pick_yes (y := .tmp 15) (by kernel_rfl) (Opd.of_base 12 rfl) (Opd.const _) rfl) (by kernel_rfl) (by decide) h ?_
  clear h
  intro a w h
  refine env_one (i := 13) (d := 17) (k := .val (.bool true)) (step_move (by kernel_rfl) (Opd.of_base 16 rfl) rfl) (by kernel_rfl) (by decide) h ?_
  clear h
  intro a w h
  refine env_skip (i := 14) (d := 18) (g := 13) (dg := 17) (b := false) (by kernel_rfl) (by decide) (by kernel_rfl) rfl rfl h ?_
  clear h
  intro a w h
  refine env_skip (i := 15) (d := 19) (g := 13) (dg := 17) (b := false) (by kernel_rfl) (by decide) (by kernel_rfl) rfl rfl h ?_
  clear h
  intro a w h
  refine env_skip (i := 16) (d := 20) (g := 13) (dg := 17) (b := false) (by kernel_rfl) (by decide) (by kernel_rfl) rfl rfl h ?_
  clear h
  intro a w h
  refine env_skip (i := 17) (d := 21) (g := 13) (dg := 17) (b := false) (by kernel_rfl) (by decide) (by kernel_rfl) rfl rfl h ?_
  clear h
  intro a w h
  refine env_one (i := 18) (d := 22) (k := .val (.bool true)) (step_pick_yes (y := .tmp 21) (by kernel_rfl) (Opd.of_base 17 rfl) (Opd.const _) rfl) (by kernel_rfl) (by decide) h ?_
  clear h
  intro a w h
  exact hQ a w (h.keep [1, 2, 990, 3, 22])
theorem rFormal2a_region {Q : Exit → Act → World → Prop} (p0 : Pay) (l0 : Fo) (r : Nat)  {w0 : World} {a : Act} {w : World} (hr : w0.heap.size ≤ r) (h : Hold 28 [(1, .sat (nP 0 (some r) p0 l0)), (2, .sat (rC 0 r zp .nil)), (990, .sat (gP 0 (some r))), (3, .val (.bool false))] w0 a w)
    (hQ : ∀ a' w', Hold 28 [(1, .sat (nP 0 (some r) p0 l0)), (990, .sat (gP 0 (some r))), (3, .val (.bool false)), (2, .sat (rC 0 r zp .nil))] w0 a' w' → Q .normal a' w') : (Code.region 2 rFormal2Ops false).wp Try.prog Q a w := by
  refine region_seq (w0 := w) 3 (by kernel_rfl) ?_
  rw [show List.range 3 = [0, 1, 2] from rfl]
  refine env_one (i := 0) (d := 23) (k := .sat (nT 0 (some r) zp .nil)) (step_nzero (by kernel_rfl) rfl) (by kernel_rfl) (by decide) h ?_
  clear h
  intro a w h
  refine env_store (i := 1) (x := 2) (y := 23) (r := r) [(1, .sat (nP 0 (some r) p0 l0)), (990, .sat (gP 0 (some r))), (3, .val (.bool false)), (23, .sat (nT 0 (some r) zp .nil))] (by kernel_rfl) rfl rfl hr (stays_cons 1 rfl (away_nP _ _ _ _) (stays_cons 990 rfl (away_gP _ _ _) (stays_cons 3 rfl (away_val _ _) (stays_cons 23 rfl (away_nT _ _ _ _) (stays_nil _ _))))) h ?_
  clear h
  intro a w h
  refine env_one (i := 2) (d := 3) (k := .val (.bool false)) (step_assign (by kernel_rfl) (Opd.const _) rfl) (by kernel_rfl) (by decide) h ?_
  clear h
  intro a w h
  exact hQ a w (h.keep [1, 990, 3, 2])
theorem rFormal1b_region {Q : Exit → Act → World → Prop} (p0 : Pay) (l0 : Fo) (r : Nat) (hv : Tm.validB p0 l0 = true) (h1 : ¬ p0.1 = 3) {w0 : World} {a : Act} {w : World} (hr : w0.heap.size ≤ r) (h : Hold 28 [(1, .sat (nP 0 (some r) p0 l0)), (2, .sat (rC 0 r zp .nil)), (990, .sat (gP 0 (some r))), (3, .val (.bool false))] w0 a w)
    (hQ : ∀ a' w', Hold 28 [(1, .sat (nP 0 (some r) p0 l0)), (2, .sat (rC 0 r zp .nil)), (990, .sat (gP 0 (some r))), (3, .val (.bool false)), (22, .val (.bool true))] w0 a' w' → Q .normal a' w') : (Code.region 1 rFormal1Ops false).wp Try.prog Q a w := by
  refine region_seq (w0 := w) 19 (by kernel_rfl) ?_
  rw [show List.range 19 = [0, 1, 2, 3, 4, 5, 6, 7, 8, 9, 10, 11, 12, 13, 14, 15, 16, 17, 18] from rfl]
  refine env_one (i := 0) (d := 4) (k := .sat (nT 0 (some r) p0 l0)) (step_nload (by kernel_rfl) (Opd.of_base 1 rfl) rfl) (by kernel_rfl) (by decide) h ?_
  clear h
  intro a w h
  refine env_one (i := 1) (d := 5) (k := .val (.bool true)) (step_rvalid6 (by kernel_rfl) (Opd.ofT (Opd.of_base 4 rfl)) (by rw [hv]; rfl)) (by kernel_rfl) (by decide) h ?_
  clear h
  intro a w h
  refine env_one (i := 2) (d := 6) (k := .val (.bool false)) (step_not (by kernel_rfl) (Opd.of_base 5 rfl) rfl) (by kernel_rfl) (by decide) h ?_
  clear h
  intro a w h
  refine env_one (i := 3) (d := 7) (k := .val (.bool false)) (step_move (by kernel_rfl) (Opd.of_base 6 rfl) rfl) (by kernel_rfl) (by decide) h ?_
  clear h
  intro a w h
  refine env_guard (i := 4) (d := 8) (g := 3) (dg := 7) (b := false) (k := .ptrI (p0.1)) (step_field0 (by kernel_rfl) (Opd.ofP (Opd.of_base 1 rfl)) rfl) (by kernel_rfl) (by decide) (by kernel_rfl) (by decide) rfl h ?_
  clear h
  intro a w h
  refine env_guard (i := 5) (d := 9) (g := 3) (dg := 7) (b := false) (k := .val (.int .i64 (p0.1))) (step_load_int3 (by kernel_rfl) (Opd.of_base 8 rfl) rfl) (by kernel_rfl) (by decide) (by kernel_rfl) (by decide) rfl h ?_
  clear h
  intro a w h
  refine env_guard (i := 6) (d := 10) (g := 3) (dg := 7) (b := false) (k := .val (.bool true)) (step_ne_int (m := (p0.1)) (n := 3) (by kernel_rfl) (Opd.of_base 9 rfl) (Opd.const _) (by simpa using h1) rfl) (by kernel_rfl) (by decide) (by kernel_rfl) (by decide) rfl h ?_
  clear h
  intro a w h
  refine env_one (i := 7) (d := 11) (k := .val (.bool true)) (step_pick_no (x := .const (.bool true)) (by kernel_rfl) (Opd.of_base 7 rfl) (Opd.of_base 10 rfl) rfl) (by kernel_rfl) (by decide) h ?_
  clear h
  intro a w h
  refine env_one (i := 8) (d := 12) (k := .val (.bool true)) (step_move (by kernel_rfl) (Opd.of_base 11 rfl) rfl) (by kernel_rfl) (by decide) h ?_
  clear h
  intro a w h
  refine env_skip (i := 9) (d := 13) (g := 8) (dg := 12) (b := false) (by kernel_rfl) (by decide) (by kernel_rfl) rfl rfl h ?_
  clear h
  intro a w h
  refine env_skip (i := 10) (d := 14) (g := 8) (dg := 12) (b := false) (by kernel_rfl) (by decide) (by kernel_rfl) rfl rfl h ?_
  clear h
  intro a w h
  refine env_skip (i := 11) (d := 15) (g := 8) (dg := 12) (b := false) (by kernel_rfl) (by decide) (by kernel_rfl) rfl rfl h ?_
  clear h
  intro a w h
  refine env_one (i := 12) (d := 16) (k := .val (.bool true)) (step_pick_yes (y := .tmp 15) (by kernel_rfl) (Opd.of_base 12 rfl) (Opd.const _) rfl) (by kernel_rfl) (by decide) h ?_
  clear h
  intro a w h
  refine env_one (i := 13) (d := 17) (k := .val (.bool true)) (step_move (by kernel_rfl) (Opd.of_base 16 rfl) rfl) (by kernel_rfl) (by decide) h ?_
  clear h
  intro a w h
  refine env_skip (i := 14) (d := 18) (g := 13) (dg := 17) (b := false) (by kernel_rfl) (by decide) (by kernel_rfl) rfl rfl h ?_
  clear h
  intro a w h
  refine env_skip (i := 15) (d := 19) (g := 13) (dg := 17) (b := false) (by kernel_rfl) (by decide) (by kernel_rfl) rfl rfl h ?_
  clear h
  intro a w h
  refine env_skip (i := 16) (d := 20) (g := 13) (dg := 17) (b := false) (by kernel_rfl) (by decide) (by kernel_rfl) rfl rfl h ?_
  clear h
  intro a w h
  refine env_skip (i := 17) (d := 21) (g := 13) (dg := 17) (b := false) (by kernel_rfl) (by decide) (by kernel_rfl) rfl rfl h ?_
  clear h
  intro a w h
  refine env_one (i := 18) (d := 22) (k := .val (.bool true)) (step_pick_yes (y := .tmp 21) (by kernel_rfl) (Opd.of_base 17 rfl) (Opd.const _) rfl) (by kernel_rfl) (by decide) h ?_
  clear h
  intro a w h
  exact hQ a w (h.keep [1, 2, 990, 3, 22])
theorem rFormal1c_region {Q : Exit → Act → World → Prop} (p0 : Pay) (l0 : Fo) (r : Nat) (hv : Tm.validB p0 l0 = true) (h1 : p0.1 = 3) (h2 : ¬ p0.2.2 = ⟨#[101, 114, 114, 111, 114]⟩) {w0 : World} {a : Act} {w : World} (hr : w0.heap.size ≤ r) (h : Hold 28 [(1, .sat (nP 0 (some r) p0 l0)), (2, .sat (rC 0 r zp .nil)), (990, .sat (gP 0 (some r))), (3, .val (.bool false))] w0 a w)
    (hQ : ∀ a' w', Hold 28 [(1, .sat (nP 0 (some r) p0 l0)), (2, .sat (rC 0 r zp .nil)), (990, .sat (gP 0 (some r))), (3, .val (.bool false)), (22, .val (.bool true))] w0 a' w' → Q .normal a' w') : (Code.region 1 rFormal1Ops false).wp Try.prog Q a w := by
  refine region_seq (w0 := w) 19 (by kernel_rfl) ?_
  rw [show List.range 19 = [0, 1, 2, 3, 4, 5, 6, 7, 8, 9, 10, 11, 12, 13, 14, 15, 16, 17, 18] from rfl]
  refine env_one (i := 0) (d := 4) (k := .sat (nT 0 (some r) p0 l0)) (step_nload (by kernel_rfl) (Opd.of_base 1 rfl) rfl) (by kernel_rfl) (by decide) h ?_
  clear h
  intro a w h
  refine env_one (i := 1) (d := 5) (k := .val (.bool true)) (step_rvalid6 (by kernel_rfl) (Opd.ofT (Opd.of_base 4 rfl)) (by rw [hv]; rfl)) (by kernel_rfl) (by decide) h ?_
  clear h
  intro a w h
  refine env_one (i := 2) (d := 6) (k := .val (.bool false)) (step_not (by kernel_rfl) (Opd.of_base 5 rfl) rfl) (by kernel_rfl) (by decide) h ?_
  clear h
  intro a w h
  refine env_one (i := 3) (d := 7) (k := .val (.bool false)) (step_move (by kernel_rfl) (Opd.of_base 6 rfl) rfl) (by kernel_rfl) (by decide) h ?_
  clear h
  intro a w h
  refine env_guard (i := 4) (d := 8) (g := 3) (dg := 7) (b := false) (k := .ptrI (p0.1)) (step_field0 (by kernel_rfl) (Opd.ofP (Opd.of_base 1 rfl)) rfl) (by kernel_rfl) (by decide) (by kernel_rfl) (by decide) rfl h ?_
  clear h
  intro a w h
  refine env_guard (i := 5) (d := 9) (g := 3) (dg := 7) (b := false) (k := .val (.int .i64 (p0.1))) (step_load_int3 (by kernel_rfl) (Opd.of_base 8 rfl) rfl) (by kernel_rfl) (by decide) (by kernel_rfl) (by decide) rfl h ?_
  clear h
  intro a w h
  refine env_guard (i := 6) (d := 10) (g := 3) (dg := 7) (b := false) (k := .val (.bool false)) (step_ne_int (m := (p0.1)) (n := 3) (by kernel_rfl) (Opd.of_base 9 rfl) (Opd.const _) (by rw [h1]; rfl) rfl) (by kernel_rfl) (by decide) (by kernel_rfl) (by decide) rfl h ?_
  clear h
  intro a w h
  refine env_one (i := 7) (d := 11) (k := .val (.bool false)) (step_pick_no (x := .const (.bool true)) (by kernel_rfl) (Opd.of_base 7 rfl) (Opd.of_base 10 rfl) rfl) (by kernel_rfl) (by decide) h ?_
  clear h
  intro a w h
  refine env_one (i := 8) (d := 12) (k := .val (.bool false)) (step_move (by kernel_rfl) (Opd.of_base 11 rfl) rfl) (by kernel_rfl) (by decide) h ?_
  clear h
  intro a w h
  refine env_guard (i := 9) (d := 13) (g := 8) (dg := 12) (b := false) (k := .ptrS (p0.2.2)) (step_field2 (by kernel_rfl) (Opd.ofP (Opd.of_base 1 rfl)) rfl) (by kernel_rfl) (by decide) (by kernel_rfl) (by decide) rfl h ?_
  clear h
  intro a w h
  refine env_guard (i := 10) (d := 14) (g := 8) (dg := 12) (b := false) (k := .val (.string (p0.2.2))) (step_load_string (by kernel_rfl) (Opd.of_base 13 rfl) rfl) (by kernel_rfl) (by decide) (by kernel_rfl) (by decide) rfl h ?_
  clear h
  intro a w h
  refine env_guard (i := 11) (d := 15) (g := 8) (dg := 12) (b := false) (k := .val (.bool true)) (step_ne_str (s := (p0.2.2)) (t := ⟨#[101, 114, 114, 111, 114]⟩) (by kernel_rfl) (Opd.of_base 14 rfl) (Opd.const _) (by rw [decide_eq_false h2]; rfl) rfl) (by kernel_rfl) (by decide) (by kernel_rfl) (by decide) rfl h ?_
  clear h
  intro a w h
  refine env_one (i := 12) (d := 16) (k := .val (.bool true)) (step_pick_no (x := .const (.bool true)) (by kernel_rfl) (Opd.of_base 12 rfl) (Opd.of_base 15 rfl) rfl) (by kernel_rfl) (by decide) h ?_
  clear h
  intro a w h
  refine env_one (i := 13) (d := 17) (k := .val (.bool true)) (step_move (by kernel_rfl) (Opd.of_base 16 rfl) rfl) (by kernel_rfl) (by decide) h ?_
  clear h
  intro a w h
  refine env_skip (i := 14) (d := 18) (g := 13) (dg := 17) (b := false) (by kernel_rfl) (by decide) (by kernel_rfl) rfl rfl h ?_
  clear h
  intro a w h
  refine env_skip (i := 15) (d := 19) (g := 13) (dg := 17) (b := false) (by kernel_rfl) (by decide) (by kernel_rfl) rfl rfl h ?_
  clear h
  intro a w h
  refine env_skip (i := 16) (d := 20) (g := 13) (dg := 17) (b := false) (by kernel_rfl) (by decide) (by kernel_rfl) rfl rfl h ?_
  clear h
  intro a w h
  refine env_skip (i := 17) (d := 21) (g := 13) (dg := 17) (b := false) (by kernel_rfl) (by decide) (by kernel_rfl) rfl rfl h ?_
  clear h
  intro a w h
  refine env_one (i := 18) (d := 22) (k := .val (.bool true)) (step_pick_yes (y := .tmp 21) (by kernel_rfl) (Opd.of_base 17 rfl) (Opd.const _) rfl) (by kernel_rfl) (by decide) h ?_
  clear h
  intro a w h
  exact hQ a w (h.keep [1, 2, 990, 3, 22])
theorem rFormal1d_region {Q : Exit → Act → World → Prop} (p0 : Pay) (l0 : Fo) (r : Nat) (hv : Tm.validB p0 l0 = true) (h1 : p0.1 = 3) (h2 : p0.2.2 = ⟨#[101, 114, 114, 111, 114]⟩) (h3 : ¬ ((Tm.len l0 : Nat) : Int) = 2) {w0 : World} {a : Act} {w : World} (hr : w0.heap.size ≤ r) (h : Hold 28 [(1, .sat (nP 0 (some r) p0 l0)), (2, .sat (rC 0 r zp .nil)), (990, .sat (gP 0 (some r))), (3, .val (.bool false))] w0 a w)
    (hQ : ∀ a' w', Hold 28 [(1, .sat (nP 0 (some r) p0 l0)), (2, .sat (rC 0 r zp .nil)), (990, .sat (gP 0 (some r))), (3, .val (.bool false)), (22, .val (.bool true))] w0 a' w' → Q .normal a' w') : (Code.region 1 rFormal1Ops false).wp Try.prog Q a w := by
  refine region_seq (w0 := w) 19 (by kernel_rfl) ?_
  rw [show List.range 19 = [0, 1, 2, 3, 4, 5, 6, 7, 8, 9, 10, 11, 12, 13, 14, 15, 16, 17, 18] from rfl]
  refine env_one (i := 0) (d := 4) (k := .sat (nT 0 (some r) p0 l0)) (step_nload (by kernel_rfl) (Opd.of_base 1 rfl) rfl) (by kernel_rfl) (by decide) h ?_
  clear h
  intro a w h
  refine env_one (i := 1) (d := 5) (k := .val (.bool true)) (step_rvalid6 (by kernel_rfl) (Opd.ofT (Opd.of_base 4 rfl)) (by rw [hv]; rfl)) (by kernel_rfl) (by decide) h ?_
  clear h
  intro a w h
  refine env_one (i := 2) (d := 6) (k := .val (.bool false)) (step_not (by kernel_rfl) (Opd.of_base 5 rfl) rfl) (by kernel_rfl) (by decide) h ?_
  clear h
  intro a w h
  refine env_one (i := 3) (d := 7) (k := .val (.bool false)) (step_move (by kernel_rfl) (Opd.of_base 6 rfl) rfl) (by kernel_rfl) (by decide) h ?_
  clear h
  intro a w h
  refine env_guard (i := 4) (d := 8) (g := 3) (dg := 7) (b := false) (k := .ptrI (p0.1)) (step_field0 (by kernel_rfl) (Opd.ofP (Opd.of_base 1 rfl)) rfl) (by kernel_rfl) (by decide) (by kernel_rfl) (by decide) rfl h ?_
  clear h
  intro a w h
  refine env_guard (i := 5) (d := 9) (g := 3) (dg := 7) (b := false) (k := .val (.int .i64 (p0.1))) (step_load_int3 (by kernel_rfl) (Opd.of_base 8 rfl) rfl) (by kernel_rfl) (by decide) (by kernel_rfl) (by decide) rfl h ?_
  clear h
  intro a w h
  refine env_guard (i := 6) (d := 10) (g := 3) (dg := 7) (b := false) (k := .val (.bool false)) (step_ne_int (m := (p0.1)) (n := 3) (by kernel_rfl) (Opd.of_base 9 rfl) (Opd.const _) (by rw [h1]; rfl) rfl) (by kernel_rfl) (by decide) (by kernel_rfl) (by decide) rfl h ?_
  clear h
  intro a w h
  refine env_one (i := 7) (d := 11) (k := .val (.bool false)) (step_pick_no (x := .const (.bool true)) (by kernel_rfl) (Opd.of_base 7 rfl) (Opd.of_base 10 rfl) rfl) (by kernel_rfl) (by decide) h ?_
  clear h
  intro a w h
  refine env_one (i := 8) (d := 12) (k := .val (.bool false)) (step_move (by kernel_rfl) (Opd.of_base 11 rfl) rfl) (by kernel_rfl) (by decide) h ?_
  clear h
  intro a w h
  refine env_guard (i := 9) (d := 13) (g := 8) (dg := 12) (b := false) (k := .ptrS (p0.2.2)) (step_field2 (by kernel_rfl) (Opd.ofP (Opd.of_base 1 rfl)) rfl) (by kernel_rfl) (by decide) (by kernel_rfl) (by decide) rfl h ?_
  clear h
  intro a w h
  refine env_guard (i := 10) (d := 14) (g := 8) (dg := 12) (b := false) (k := .val (.string (p0.2.2))) (step_load_string (by kernel_rfl) (Opd.of_base 13 rfl) rfl) (by kernel_rfl) (by decide) (by kernel_rfl) (by decide) rfl h ?_
  clear h
  intro a w h
  refine env_guard (i := 11) (d := 15) (g := 8) (dg := 12) (b := false) (k := .val (.bool false)) (step_ne_str (s := (p0.2.2)) (t := ⟨#[101, 114, 114, 111, 114]⟩) (by kernel_rfl) (Opd.of_base 14 rfl) (Opd.const _) (by rw [decide_eq_true h2]; rfl) rfl) (by kernel_rfl) (by decide) (by kernel_rfl) (by decide) rfl h ?_
  clear h
  intro a w h
  refine env_one (i := 12) (d := 16) (k := .val (.bool false)) (step_pick_no (x := .const (.bool true)) (by kernel_rfl) (Opd.of_base 12 rfl) (Opd.of_base 15 rfl) rfl) (by kernel_rfl) (by decide) h ?_
  clear h
  intro a w h
  refine env_one (i := 13) (d := 17) (k := .val (.bool false)) (step_move (by kernel_rfl) (Opd.of_base 16 rfl) rfl) (by kernel_rfl) (by decide) h ?_
  clear h
  intro a w h
  refine env_guard (i := 14) (d := 18) (g := 13) (dg := 17) (b := false) (k := .sat (nQ 0 (some r) l0)) (step_nfield3 (by kernel_rfl) (Opd.of_base 1 rfl) rfl) (by kernel_rfl) (by decide) (by kernel_rfl) (by decide) rfl h ?_
  clear h
  intro a w h
  refine env_guard (i := 15) (d := 19) (g := 13) (dg := 17) (b := false) (k := .sat (nR 0 (some r) l0)) (step_nload_row (by kernel_rfl) (Opd.of_base 18 rfl) rfl) (by kernel_rfl) (by decide) (by kernel_rfl) (by decide) rfl h ?_
  clear h
  intro a w h
  refine env_guard (i := 16) (d := 20) (g := 13) (dg := 17) (b := false) (k := .val (.int .i64 ((Tm.len l0 : Nat) : Int))) (step_len_row (by kernel_rfl) (Opd.ofR (Opd.of_base 19 rfl)) rfl) (by kernel_rfl) (by decide) (by kernel_rfl) (by decide) rfl h ?_
  clear h
  intro a w h
  refine env_guard (i := 17) (d := 21) (g := 13) (dg := 17) (b := false) (k := .val (.bool true)) (step_ne_int (m := ((Tm.len l0 : Nat) : Int)) (n := 2) (by kernel_rfl) (Opd.of_base 20 rfl) (Opd.const _) (by simpa using h3) rfl) (by kernel_rfl) (by decide) (by kernel_rfl) (by decide) rfl h ?_
  clear h
  intro a w h
  refine env_one (i := 18) (d := 22) (k := .val (.bool true)) (step_pick_no (x := .const (.bool true)) (by kernel_rfl) (Opd.of_base 17 rfl) (Opd.of_base 21 rfl) rfl) (by kernel_rfl) (by decide) h ?_
  clear h
  intro a w h
  exact hQ a w (h.keep [1, 2, 990, 3, 22])
theorem rFormal1e_region {Q : Exit → Act → World → Prop} (p0 : Pay) (l0 : Fo) (r : Nat) (hv : Tm.validB p0 l0 = true) (h1 : p0.1 = 3) (h2 : p0.2.2 = ⟨#[101, 114, 114, 111, 114]⟩) (h3 : ((Tm.len l0 : Nat) : Int) = 2) {w0 : World} {a : Act} {w : World} (hr : w0.heap.size ≤ r) (h : Hold 28 [(1, .sat (nP 0 (some r) p0 l0)), (2, .sat (rC 0 r zp .nil)), (990, .sat (gP 0 (some r))), (3, .val (.bool false))] w0 a w)
    (hQ : ∀ a' w', Hold 28 [(1, .sat (nP 0 (some r) p0 l0)), (2, .sat (rC 0 r zp .nil)), (990, .sat (gP 0 (some r))), (3, .val (.bool false)), (22, .val (.bool false))] w0 a' w' → Q .normal a' w') : (Code.region 1 rFormal1Ops false).wp Try.prog Q a w := by
  refine region_seq (w0 := w) 19 (by kernel_rfl) ?_
  rw [show List.range 19 = [0, 1, 2, 3, 4, 5, 6, 7, 8, 9, 10, 11, 12, 13, 14, 15, 16, 17, 18] from rfl]
  refine env_one (i := 0) (d := 4) (k := .sat (nT 0 (some r) p0 l0)) (step_nload (by kernel_rfl) (Opd.of_base 1 rfl) rfl) (by kernel_rfl) (by decide) h ?_
  clear h
  intro a w h
  refine env_one (i := 1) (d := 5) (k := .val (.bool true)) (step_rvalid6 (by kernel_rfl) (Opd.ofT (Opd.of_base 4 rfl)) (by rw [hv]; rfl)) (by kernel_rfl) (by decide) h ?_
  clear h
  intro a w h
  refine env_one (i := 2) (d := 6) (k := .val (.bool false)) (step_not (by kernel_rfl) (Opd.of_base 5 rfl) rfl) (by kernel_rfl) (by decide) h ?_
  clear h
  intro a w h
  refine env_one (i := 3) (d := 7) (k := .val (.bool false)) (step_move (by kernel_rfl) (Opd.of_base 6 rfl) rfl) (by kernel_rfl) (by decide) h ?_
  clear h
  intro a w h
  refine env_guard (i := 4) (d := 8) (g := 3) (dg := 7) (b := false) (k := .ptrI (p0.1)) (step_field0 (by kernel_rfl) (Opd.ofP (Opd.of_base 1 rfl)) rfl) (by kernel_rfl) (by decide) (by kernel_rfl) (by decide) rfl h ?_
  clear h
  intro a w h
  refine env_guard (i := 5) (d := 9) (g := 3) (dg := 7) (b := false) (k := .val (.int .i64 (p0.1))) (step_load_int3 (by kernel_rfl) (Opd.of_base 8 rfl) rfl) (by kernel_rfl) (by decide) (by kernel_rfl) (by decide) rfl h ?_
  clear h
  intro a w h
  refine env_guard (i := 6) (d := 10) (g := 3) (dg := 7) (b := false) (k := .val (.bool false)) (step_ne_int (m := (p0.1)) (n := 3) (by kernel_rfl) (Opd.of_base 9 rfl) (Opd.const _) (by rw [h1]; rfl) rfl) (by kernel_rfl) (by decide) (by kernel_rfl) (by decide) rfl h ?_
  clear h
  intro a w h
  refine env_one (i := 7) (d := 11) (k := .val (.bool false)) (step_pick_no (x := .const (.bool true)) (by kernel_rfl) (Opd.of_base 7 rfl) (Opd.of_base 10 rfl) rfl) (by kernel_rfl) (by decide) h ?_
  clear h
  intro a w h
  refine env_one (i := 8) (d := 12) (k := .val (.bool false)) (step_move (by kernel_rfl) (Opd.of_base 11 rfl) rfl) (by kernel_rfl) (by decide) h ?_
  clear h
  intro a w h
  refine env_guard (i := 9) (d := 13) (g := 8) (dg := 12) (b := false) (k := .ptrS (p0.2.2)) (step_field2 (by kernel_rfl) (Opd.ofP (Opd.of_base 1 rfl)) rfl) (by kernel_rfl) (by decide) (by kernel_rfl) (by decide) rfl h ?_
  clear h
  intro a w h
  refine env_guard (i := 10) (d := 14) (g := 8) (dg := 12) (b := false) (k := .val (.string (p0.2.2))) (step_load_string (by kernel_rfl) (Opd.of_base 13 rfl) rfl) (by kernel_rfl) (by decide) (by kernel_rfl) (by decide) rfl h ?_
  clear h
  intro a w h
  refine env_guard (i := 11) (d := 15) (g := 8) (dg := 12) (b := false) (k := .val (.bool false)) (step_ne_str (s := (p0.2.2)) (t := ⟨#[101, 114, 114, 111, 114]⟩) (by kernel_rfl) (Opd.of_base 14 rfl) (Opd.const _) (by rw [decide_eq_true h2]; rfl) rfl) (by kernel_rfl) (by decide) (by kernel_rfl) (by decide) rfl h ?_
  clear h
  intro a w h
  refine env_one (i := 12) (d := 16) (k := .val (.bool false)) (step_pick_no (x := .const (.bool true)) (by kernel_rfl) (Opd.of_base 12 rfl) (Opd.of_base 15 rfl) rfl) (by kernel_rfl) (by decide) h ?_
  clear h
  intro a w h
  refine env_one (i := 13) (d := 17) (k := .val (.bool false)) (step_move (by kernel_rfl) (Opd.of_base 16 rfl) rfl) (by kernel_rfl) (by decide) h ?_
  clear h
  intro a w h
  refine env_guard (i := 14) (d := 18) (g := 13) (dg := 17) (b := false) (k := .sat (nQ 0 (some r) l0)) (step_nfield3 (by kernel_rfl) (Opd.of_base 1 rfl) rfl) (by kernel_rfl) (by decide) (by kernel_rfl) (by decide) rfl h ?_
  clear h
  intro a w h
  refine env_guard (i := 15) (d := 19) (g := 13) (dg := 17) (b := false) (k := .sat (nR 0 (some r) l0)) (step_nload_row (by kernel_rfl) (Opd.of_base 18 rfl) rfl) (by kernel_rfl) (by decide) (by kernel_rfl) (by decide) rfl h ?_
  clear h
  intro a w h
  refine env_guard (i := 16) (d := 20) (g := 13) (dg := 17) (b := false) (k := .val (.int .i64 ((Tm.len l0 : Nat) : Int))) (step_len_row (by kernel_rfl) (Opd.ofR (Opd.of_base 19 rfl)) rfl) (by kernel_rfl) (by decide) (by kernel_rfl) (by decide) rfl h ?_
  clear h
  intro a w h
  refine env_guard (i := 17) (d := 21) (g := 13) (dg := 17) (b := false) (k := .val (.bool false)) (step_ne_int (m := ((Tm.len l0 : Nat) : Int)) (n := 2) (by kernel_rfl) (Opd.of_base 20 rfl) (Opd.const _) (by rw [h3]; rfl) rfl) (by kernel_rfl) (by decide) (by kernel_rfl) (by decide) rfl h ?_
  clear h
  intro a w h
  refine env_one (i := 18) (d := 22) (k := .val (.bool false)) (step_pick_no (x := .const (.bool true)) (by kernel_rfl) (Opd.of_base 17 rfl) (Opd.of_base 21 rfl) rfl) (by kernel_rfl) (by decide) h ?_
  clear h
  intro a w h
  exact hQ a w (h.keep [1, 2, 990, 3, 22])
theorem rFormal3a_region {Q : Exit → Act → World → Prop} (p0 : Pay) (l0 : Fo) (r : Nat) (hl2 : Tm.len l0 = 2) {w0 : World} {a : Act} {w : World} (hr : w0.heap.size ≤ r) (h : Hold 28 [(1, .sat (nP 0 (some r) p0 l0)), (2, .sat (rC 0 r zp .nil)), (990, .sat (gP 0 (some r))), (3, .val (.bool false))] w0 a w)
    (hQ : ∀ a' w', Hold 28 [(990, .sat (gP 0 (some r))), (3, .val (.bool true)), (2, .sat (rC 0 r ((Bl.arg0 l0).1) ((Bl.arg0 l0).2)))] w0 a' w' → Q .normal a' w') : (Code.region 3 rFormal3Ops false).wp Try.prog Q a w := by
  refine region_seq (w0 := w) 6 (by kernel_rfl) ?_
  rw [show List.range 6 = [0, 1, 2, 3, 4, 5] from rfl]
  refine env_one (i := 0) (d := 24) (k := .sat (nQ 0 (some r) l0)) (step_nfield3 (by kernel_rfl) (Opd.of_base 1 rfl) rfl) (by kernel_rfl) (by decide) h ?_
  clear h
  intro a w h
  refine env_one (i := 1) (d := 25) (k := .sat (nR 0 (some r) l0)) (step_nload_row (by kernel_rfl) (Opd.of_base 24 rfl) rfl) (by kernel_rfl) (by decide) h ?_
  clear h
  intro a w h
  refine env_one (i := 2) (d := 26) (k := .sat (nP 0 (some r) ((Bl.arg0 l0).1) ((Bl.arg0 l0).2))) (step_nindex (k := 0) (r := (Tm.dropF l0 1)) (by kernel_rfl) (Opd.of_base 25 rfl) (Opd.const _) (Bl.drop0 hl2) rfl) (by kernel_rfl) (by decide) h ?_
  clear h
  intro a w h
  refine env_one (i := 3) (d := 27) (k := .sat (nT 0 (some r) ((Bl.arg0 l0).1) ((Bl.arg0 l0).2))) (step_nload (by kernel_rfl) (Opd.of_base 26 rfl) rfl) (by kernel_rfl) (by decide) h ?_
  clear h
  intro a w h
  refine env_store (i := 4) (x := 2) (y := 27) (r := r) [(1, .sat (nP 0 (some r) p0 l0)), (990, .sat (gP 0 (some r))), (3, .val (.bool false)), (25, .sat (nR 0 (some r) l0)), (26, .sat (nP 0 (some r) ((Bl.arg0 l0).1) ((Bl.arg0 l0).2))), (27, .sat (nT 0 (some r) ((Bl.arg0 l0).1) ((Bl.arg0 l0).2)))] (by kernel_rfl) rfl rfl hr (stays_cons 1 rfl (away_nP _ _ _ _) (stays_cons 990 rfl (away_gP _ _ _) (stays_cons 3 rfl (away_val _ _) (stays_cons 25 rfl (away_nR _ _ _) (stays_cons 26 rfl (away_nP _ _ _ _) (stays_cons 27 rfl (away_nT _ _ _ _) (stays_nil _ _))))))) h ?_
  clear h
  intro a w h
  refine env_one (i := 5) (d := 3) (k := .val (.bool true)) (step_assign (by kernel_rfl) (Opd.const _) rfl) (by kernel_rfl) (by decide) h ?_
  clear h
  intro a w h
  exact hQ a w (h.keep [990, 3, 2])
set_option maxHeartbeats 1000000 in
theorem rFormal_any (p0 : Pay) (l0 : Fo) (A0 : Option Addr) (c0 : Nat) (B : Nat) (w : World) (hA0 : ArgsB w B A0 (Tm.len l0) l0) (hB : B ≤ w.heap.size)  : Calls Try.prog 33 #[tv p0 A0 (Tm.len l0) c0] w (MkB 0 ((Bl.rformal p0 l0).1).1 ((Bl.rformal p0 l0).1).2 ((Bl.rformal p0 l0).2) w) := by
  refine calls_of_wp Try.func33 rFormal_body ?_
  obtain ⟨v0, hv0⟩ : ∃ v : Value, v = tv p0 A0 (Tm.len l0) c0 := ⟨_, rfl⟩
  rw [← hv0]
  have hk0 : (Kd.term p0 l0).R v0 w := by rw [hv0]; exact ⟨A0, c0, rfl, hA0.up hB⟩
  have hsN : (#[v0] ++ Array.replicate (Try.f33.ntmps - #[v0].size) undef : Array Value).size = 28 := by kernel_rfl
  have gs0 : (#[v0] ++ Array.replicate (Try.f33.ntmps - #[v0].size) undef : Array Value).getD 0 undef = v0 := by kernel_rfl
  generalize (#[v0] ++ Array.replicate (Try.f33.ntmps - #[v0].size) undef : Array Value) = tm at hsN gs0 ⊢
  obtain ⟨a, ha0⟩ : ∃ a : Act, a = ⟨tm, []⟩ := ⟨_, rfl⟩
  have h : Hold 28 [(0, .term p0 l0)] w ⟨tm, []⟩ w := ⟨hsN, rfl, Below.refl _ _, (slots_cons 0 (by rw [gs0]; exact hk0) slots_nil)⟩
  refine wp_seq ?_
  refine rFormal0a_region p0 l0  h ?_
  intro r a w1 hr h
  show Code.wp _ _ _ a w1
  refine wp_seq ?_
  refine wp_seq ?_
  rcases Bool.eq_false_or_eq_true (Tm.validB p0 l0) with hv | hv
  rotate_left
  · refine rFormal1a_region p0 l0 r hv hr h ?_
    intro a w1 h
    show Code.wp _ _ _ a w1
    refine env_cond (b := true) rfl h ?_
    have h := h.keep [1, 2, 990, 3]
    show Code.wp _ _ _ a w1
    refine wp_seq ?_
    refine rFormal2a_region p0 l0 r  hr h ?_
    intro a w1 h
    show Code.wp _ _ _ a w1
    have ev : Bl.rformal p0 l0 = ((zp, .nil), false) := by simp [Bl.rformal, hv]
    rw [ev]
    refine wp_ret ?_
    (try simp only [then_ret, block_ret])
    exact law_cb rfl (h.get 3 rfl) (h.get 2 rfl) h.defers fun A c ha => ⟨A, c, rfl, ha.mono fun b hb => ⟨Nat.zero_le _, hb.2.1⟩, h.world⟩
  by_cases h1 : p0.1 = 3
  rotate_left
  · have hs : Bl.isS p0 l0 ⟨#[101, 114, 114, 111, 114]⟩ 2 = false := Bl.isS_false fun h => h1 h.1
    refine rFormal1b_region p0 l0 r hv h1 hr h ?_
    intro a w1 h
    show Code.wp _ _ _ a w1
    refine env_cond (b := true) rfl h ?_
    have h := h.keep [1, 2, 990, 3]
    show Code.wp _ _ _ a w1
    refine wp_seq ?_
    refine rFormal2a_region p0 l0 r  hr h ?_
    intro a w1 h
    show Code.wp _ _ _ a w1
    have ev : Bl.rformal p0 l0 = ((zp, .nil), false) := by simp [Bl.rformal, hv, hs]
    rw [ev]
    refine wp_ret ?_
    (try simp only [then_ret, block_ret])
    exact law_cb rfl (h.get 3 rfl) (h.get 2 rfl) h.defers fun A c ha => ⟨A, c, rfl, ha.mono fun b hb => ⟨Nat.zero_le _, hb.2.1⟩, h.world⟩
  by_cases h2 : p0.2.2 = ⟨#[101, 114, 114, 111, 114]⟩
  rotate_left
  · have hs : Bl.isS p0 l0 ⟨#[101, 114, 114, 111, 114]⟩ 2 = false := Bl.isS_false fun h => h2 h.2.1
    refine rFormal1c_region p0 l0 r hv h1 h2 hr h ?_
    intro a w1 h
    show Code.wp _ _ _ a w1
    refine env_cond (b := true) rfl h ?_
    have h := h.keep [1, 2, 990, 3]
    show Code.wp _ _ _ a w1
    refine wp_seq ?_
    refine rFormal2a_region p0 l0 r  hr h ?_
    intro a w1 h
    show Code.wp _ _ _ a w1
    have ev : Bl.rformal p0 l0 = ((zp, .nil), false) := by simp [Bl.rformal, hv, hs]
    rw [ev]
    refine wp_ret ?_
    (try simp only [then_ret, block_ret])
    exact law_cb rfl (h.get 3 rfl) (h.get 2 rfl) h.defers fun A c ha => ⟨A, c, rfl, ha.mono fun b hb => ⟨Nat.zero_le _, hb.2.1⟩, h.world⟩
  by_cases h3 : ((Tm.len l0 : Nat) : Int) = 2
  rotate_left
  · have hs : Bl.isS p0 l0 ⟨#[101, 114, 114, 111, 114]⟩ 2 = false := Bl.isS_false fun h => h3 h.2.2
    refine rFormal1d_region p0 l0 r hv h1 h2 h3 hr h ?_
    intro a w1 h
    show Code.wp _ _ _ a w1
    refine env_cond (b := true) rfl h ?_
    have h := h.keep [1, 2, 990, 3]
    show Code.wp _ _ _ a w1
    refine wp_seq ?_
    refine rFormal2a_region p0 l0 r  hr h ?_
    intro a w1 h
    show Code.wp _ _ _ a w1
    have ev : Bl.rformal p0 l0 = ((zp, .nil), false) := by simp [Bl.rformal, hv, hs]
    rw [ev]
    refine wp_ret ?_
    (try simp only [then_ret, block_ret])
    exact law_cb rfl (h.get 3 rfl) (h.get 2 rfl) h.defers fun A c ha => ⟨A, c, rfl, ha.mono fun b hb => ⟨Nat.zero_le _, hb.2.1⟩, h.world⟩
  · have hs : Bl.isS p0 l0 ⟨#[101, 114, 114, 111, 114]⟩ 2 = true := Bl.isS_true h1 h2 h3
    refine rFormal1e_region p0 l0 r hv h1 h2 h3 hr h ?_
    intro a w1 h
    show Code.wp _ _ _ a w1
    refine env_cond (b := false) rfl h ?_
    refine wp_skip ?_
    have h := h.keep [1, 2, 990, 3]
    show Code.wp _ _ _ a w1
    refine wp_seq ?_
    have hl2 : Tm.len l0 = 2 := Bl.isS_len hs
    refine rFormal3a_region p0 l0 r hl2 hr h ?_
    intro a w1 h
    show Code.wp _ _ _ a w1
    have ev : Bl.rformal p0 l0 = (((Bl.arg0 l0).1, (Bl.arg0 l0).2), true) := by simp [Bl.rformal, hv, hs]
    rw [ev]
    refine wp_ret ?_
    (try simp only [then_ret, block_ret])
    exact law_cb rfl (h.get 3 rfl) (h.get 2 rfl) h.defers fun A c ha => ⟨A, c, rfl, ha.mono fun b hb => ⟨Nat.zero_le _, hb.2.1⟩, h.world⟩
section
variable {ops : Array Oper} {Q : Exit → Act → World → Prop} {E : Nat → Kd} {D : Nat → Nat} {base : Nat → Option Kd} {N : Nat}
theorem step_rFormal {i : Nat} {x0 : Operand} {p0 : Pay} {l0 : Fo} (hop : (ops[i]?).map (·.op) = some (.call { callee := .value (.func 33), args := #[x0], argTypes := #[24] })) (h0 : Opd ops E D base N i x0 (.term p0 l0)) (hE : E i = .sat (nT2 0 none ((Bl.rformal p0 l0).1).1 ((Bl.rformal p0 l0).1).2 ((Bl.rformal p0 l0).2))) : Step Try.prog ops Q E D base N i :=
  step_mkB0 hop (fun _ _ => by kernel_rfl) (fun a w h => by
    obtain ⟨A0, c0, e0, ha0⟩ := h0 a w h
    rw [show (#[x0] : Array Operand).map a.eval = #[tv p0 A0 (Tm.len l0) c0] by rw [← e0]; simp]
    exact rFormal_any p0 l0 A0 c0 w.heap.size w ha0 (Nat.le_refl _)) hE
end
end Go.Proofs.Ytapcnehpechkpaa
