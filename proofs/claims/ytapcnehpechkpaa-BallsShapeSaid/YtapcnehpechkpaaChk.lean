/-
  Package balls: the checks of arguments.
-/
import Derived.Test.YtapcnehpechkpaaMake6
namespace Go.Proofs.Ytapcnehpechkpaa
set_option linter.unusedVariables false
set_option linter.unusedSimpArgs false
set_option maxRecDepth 100000
open Go.RowKit
def byte0 (s : ByteArray) : Nat := (s.data.getD 0 0).toNat
theorem byte0_lt (s : ByteArray) : byte0 s < 256 := UInt8.toNat_lt _
section
variable {ops : Array Oper} {Q : Exit → Act → World → Prop} {E : Nat → Kd} {D : Nat → Nat} {base : Nat → Option Kd} {N : Nat}
theorem step_len_str {i : Nat} {x : Operand} {s : ByteArray} (hop : (ops[i]?).map (·.op) = some (.call { callee := .builtin .len, args := #[x], argTypes := #[9] })) (hx : Opd ops E D base N i x (.val (.string s))) (hE : E i = .val (.int .i64 ((s.size : Nat) : Int))) : Step Try.prog ops Q E D base N i :=
  step_still hop hE fun a w h dst ty' pos after guard => by
    have e : a.eval x = .string s := hx a w h
    refine ⟨.int .i64 ((s.size : Nat) : Int), ?_, rfl⟩
    unfold execOp
    simp only [resolve, List.map_toArray, List.map_cons, List.map_nil, e]
    go_simp
theorem step_byte0 {i : Nat} {x : Operand} {s : ByteArray} (hs : 0 < s.size) (hop : (ops[i]?).map (·.op) = some (.index 9 x (.const (.int .i64 0)))) (hx : Opd ops E D base N i x (.val (.string s))) (hE : E i = .val (.int .u8 ((byte0 s : Nat) : Int))) : Step Try.prog ops Q E D base N i :=
  step_still hop hE fun a w h dst ty' pos after guard => by
    have e : a.eval x = .string s := hx a w h
    refine ⟨.int .u8 ((byte0 s : Nat) : Int), ?_, rfl⟩
    unfold execOp
    simp only [e]
    go_simp
    have h0 : s[0] = s.data.getD 0 0 := by
      have : 0 < s.data.size := hs
      simp [Array.getD, this, ByteArray.getElem_eq_getElem_data]
      intro e0
      subst e0
      exact absurd hs (by decide)
    rw [byte0, ← h0]
theorem step_conv8 {i : Nat} {x : Operand} {z : Nat} (hz : z < 256) (hop : (ops[i]?).map (·.op) = some (.convert 5 3 x)) (hx : Opd ops E D base N i x (.val (.int .u8 (z : Int)))) (hE : E i = .val (.int .i64 (z : Int))) : Step Try.prog ops Q E D base N i :=
  step_still hop hE fun a w h dst ty' pos after guard => by
    have e : a.eval x = .int .u8 (z : Int) := hx a w h
    refine ⟨.int .i64 (z : Int), ?_, rfl⟩
    have hw : IntKind.i64.wrap (z : Int) = (z : Int) := by rw [IntKind.wrap_i64]; omega
    unfold execOp
    simp only [e]
    go_simp
end
namespace Bl
def isS (p : Pay) (l : Fo) (s : ByteArray) (k : Int) : Bool := decide (p.1 = 3 ∧ p.2.2 = s ∧ ((Tm.len l : Nat) : Int) = k)
def check (p : Pay) (l : Fo) (b : Bool) (s : ByteArray) : (Pay × Fo) × Bool := if Tm.validB p l = true then (if p.1 = 0 then (inst, false) else if b = true then ((zp, .nil), true) else (ty s p l, false)) else ((zp, .nil), false)
def atom (p : Pay) (l : Fo) : ByteArray × (Pay × Fo) × Bool := if (check p l (p.1 == 2) ⟨#[97, 116, 111, 109]⟩).2 = true then (p.2.2, (zp, .nil), true) else (⟨#[]⟩, (check p l (p.1 == 2) ⟨#[97, 116, 111, 109]⟩).1, false)
def int (p : Pay) (l : Fo) : Int × (Pay × Fo) × Bool := if (check p l (p.1 == 1) ⟨#[105, 110, 116, 101, 103, 101, 114]⟩).2 = true then (p.2.1, (zp, .nil), true) else (0, (check p l (p.1 == 1) ⟨#[105, 110, 116, 101, 103, 101, 114]⟩).1, false)
def callable (p : Pay) (l : Fo) : (Pay × Fo) × Bool := check p l (p.1 != 1) ⟨#[99, 97, 108, 108, 97, 98, 108, 101]⟩
def atomic (p : Pay) (l : Fo) : (Pay × Fo) × Bool := check p l (p.1 != 3) ⟨#[97, 116, 111, 109, 105, 99]⟩
def isCh (p : Pay) : Bool := (p.1 == 2) && (((p.2.2.size : Nat) : Int) == 1)
def char (p : Pay) (l : Fo) : Int × (Pay × Fo) × Bool := if (check p l (isCh p) ⟨#[99, 104, 97, 114, 97, 99, 116, 101, 114]⟩).2 = true then (((byte0 p.2.2 : Nat) : Int), (zp, .nil), true) else (0, (check p l (isCh p) ⟨#[99, 104, 97, 114, 97, 99, 116, 101, 114]⟩).1, false)
def code (p : Pay) (l : Fo) : Int × (Pay × Fo) × Bool := if (int p l).2.2 = true then (if (int p l).1 < 0 ∨ 255 < (int p l).1 then (0, rep ⟨#[99, 104, 97, 114, 97, 99, 116, 101, 114, 95, 99, 111, 100, 101]⟩, false) else ((int p l).1, (zp, .nil), true)) else (0, (int p l).2.1, false)
def arity (p : Pay) (l : Fo) : Int × (Pay × Fo) × Bool := if (int p l).2.2 = true then (if (int p l).1 < 0 then (0, dom ⟨#[110, 111, 116, 95, 108, 101, 115, 115, 95, 116, 104, 97, 110, 95, 122, 101, 114, 111]⟩ p l, false) else if 8 < (int p l).1 then (0, rep ⟨#[109, 97, 120, 95, 97, 114, 105, 116, 121]⟩, false) else ((int p l).1, (zp, .nil), true)) else (0, (int p l).2.1, false)
def arg0 (l : Fo) : Pay × Fo := match l with | .node p0 l0 _ => (p0, l0) | .nil => (zp, .nil)
def arg1 (l : Fo) : Pay × Fo := match l with | .node _ _ (.node p1 l1 _) => (p1, l1) | _ => (zp, .nil)
def formal (p : Pay) (l : Fo) : (Pay × Fo) × Bool := if Tm.validB p l = true then (if isS p l ⟨#[101, 114, 114, 111, 114]⟩ 2 = true then (Tm.cloneOf (arg0 l).1 (arg0 l).2, true) else ((zp, .nil), false)) else ((zp, .nil), false)
def anyVar : Fo → Bool
  | .nil => false
  | .node p _ r => decide (p.1 = 0) || anyVar r
def ind (p : Pay) (l : Fo) : ByteArray × Int × (Pay × Fo) × Bool :=
  if (check p l (isS p l ⟨#[47]⟩ 2) ⟨#[112, 114, 101, 100, 105, 99, 97, 116, 101, 95, 105, 110, 100, 105, 99, 97, 116, 111, 114]⟩).2 = true then
    (if anyVar l = true then (⟨#[]⟩, 0, inst, false)
    else if (atom (arg0 l).1 (arg0 l).2).2.2 = true then
      (if (arity (arg1 l).1 (arg1 l).2).2.2 = true then ((atom (arg0 l).1 (arg0 l).2).1, (arity (arg1 l).1 (arg1 l).2).1, (zp, .nil), true)
      else (⟨#[]⟩, 0, (arity (arg1 l).1 (arg1 l).2).2.1, false))
    else (⟨#[]⟩, 0, (atom (arg0 l).1 (arg0 l).2).2.1, false))
  else (⟨#[]⟩, 0, (check p l (isS p l ⟨#[47]⟩ 2) ⟨#[112, 114, 101, 100, 105, 99, 97, 116, 101, 95, 105, 110, 100, 105, 99, 97, 116, 111, 114]⟩).1, false)
theorem check_ok {p : Pay} {l : Fo} {b : Bool} {s : ByteArray} (h : (check p l b s).2 = true) : b = true ∧ Tm.validB p l = true ∧ p.1 ≠ 0 := by
  unfold check at h
  split at h
  · split at h
    · cases h
    · split at h
      · exact ⟨‹_›, ‹_›, ‹_›⟩
      · cases h
  · cases h
theorem check_no (p : Pay) (l : Fo) (s : ByteArray) : (check p l false s).2 = false := by
  cases h : (check p l false s).2 with
  | false => rfl
  | true => have := (check_ok h).1; cases this
theorem isS_len {p : Pay} {l : Fo} {s : ByteArray} (h : isS p l s 2 = true) : Tm.len l = 2 := by
  have := of_decide_eq_true h
  omega
theorem drop0 {l : Fo} (h : Tm.len l = 2) : Tm.dropF l 0 = .node (arg0 l).1 (arg0 l).2 (Tm.dropF l 1) := by
  cases l with
  | nil => simp [Tm.len] at h
  | node p l r => cases r <;> rfl
theorem drop1 {l : Fo} (h : Tm.len l = 2) : Tm.dropF l 1 = .node (arg1 l).1 (arg1 l).2 (Tm.dropF l 2) := by
  cases l with
  | nil => simp [Tm.len] at h
  | node p l r =>
    cases r with
    | nil => simp [Tm.len] at h
    | node q m r => cases r <;> rfl
end Bl
noncomputable def bIs0Ops : Array Oper := ((Try.f71.body).bind (findReg 0)).getD #[]
noncomputable def bIs1Ops : Array Oper := ((Try.f71.body).bind (findReg 1)).getD #[]
theorem bIs_body : Try.f71.body = some (.seq (.region 0 bIs0Ops false) (.seq (.region 1 bIs1Ops false) .ret)) := by kernel_rfl
theorem bIs0a_region {Q : Exit → Act → World → Prop} (p0 : Pay) (l0 : Fo) (s1 : ByteArray) (s2 : Int)  {w0 : World} {a : Act} {w : World} (h : Hold 23 [(0, .term p0 l0), (1, .val (.string s1)), (2, .val (.int .i64 s2))] w0 a w)
    (hQ : ∀ a' w', Hold 23 [(1, .val (.string s1)), (2, .val (.int .i64 s2)), (3, .ptrT p0 l0), (6, .val (.bool false))] w0 a' w' → Q .normal a' w') : (Code.region 0 bIs0Ops false).wp Try.prog Q a w := by
  refine region_seq (w0 := w) 2 (by kernel_rfl) ?_
  rw [show List.range 2 = [0, 1] from rfl]
  refine env_one (i := 0) (d := 3) (k := .ptrT p0 l0) (step_box (by kernel_rfl) (Opd.of_base 0 rfl) rfl) (by kernel_rfl) (by decide) h ?_
  clear h
  intro a w h
  refine env_one (i := 1) (d := 6) (k := .val (.bool false)) (step_assign (by kernel_rfl) (Opd.const _) rfl) (by kernel_rfl) (by decide) h ?_
  clear h
  intro a w h
  exact hQ a w (h.keep [1, 2, 3, 6])
theorem bIs1a_region {Q : Exit → Act → World → Prop} (p0 : Pay) (l0 : Fo) (s1 : ByteArray) (s2 : Int) (h1 : ¬ p0.1 = 3) {w0 : World} {a : Act} {w : World} (h : Hold 23 [(1, .val (.string s1)), (2, .val (.int .i64 s2)), (3, .ptrT p0 l0), (6, .val (.bool false))] w0 a w)
    (hQ : ∀ a' w', Hold 23 [(6, .val (.bool false))] w0 a' w' → Q .normal a' w') : (Code.region 1 bIs1Ops false).wp Try.prog Q a w := by
  refine region_seq (w0 := w) 17 (by kernel_rfl) ?_
  rw [show List.range 17 = [0, 1, 2, 3, 4, 5, 6, 7, 8, 9, 10, 11, 12, 13, 14, 15, 16] from rfl]
  refine env_one (i := 0) (d := 7) (k := .ptrI (p0.1)) (step_field0 (by kernel_rfl) (Opd.of_base 3 rfl) rfl) (by kernel_rfl) (by decide) h ?_
  clear h
  intro a w h
  refine env_one (i := 1) (d := 8) (k := .val (.int .i64 (p0.1))) (step_load_int3 (by kernel_rfl) (Opd.of_base 7 rfl) rfl) (by kernel_rfl) (by decide) h ?_
  clear h
  intro a w h
  refine env_one (i := 2) (d := 9) (k := .val (.bool false)) (step_eqb_int (m := (p0.1)) (n := 3) (by kernel_rfl) (Opd.of_base 8 rfl) (Opd.const _) (by simpa using h1) rfl) (by kernel_rfl) (by decide) h ?_
  clear h
  intro a w h
  refine env_one (i := 3) (d := 10) (k := .val (.bool false)) (step_move (by kernel_rfl) (Opd.of_base 9 rfl) rfl) (by kernel_rfl) (by decide) h ?_
  clear h
  intro a w h
  refine env_skip (i := 4) (d := 11) (g := 3) (dg := 10) (b := true) (by kernel_rfl) (by decide) (by kernel_rfl) rfl rfl h ?_
  clear h
  intro a w h
  refine env_skip (i := 5) (d := 12) (g := 3) (dg := 10) (b := true) (by kernel_rfl) (by decide) (by kernel_rfl) rfl rfl h ?_
  clear h
  intro a w h
  refine env_skip (i := 6) (d := 13) (g := 3) (dg := 10) (b := true) (by kernel_rfl) (by decide) (by kernel_rfl) rfl rfl h ?_
  clear h
  intro a w h
  refine env_skip (i := 7) (d := 14) (g := 3) (dg := 10) (b := true) (by kernel_rfl) (by decide) (by kernel_rfl) rfl rfl h ?_
  clear h
  intro a w h
  refine env_one (i := 8) (d := 15) (k := .val (.bool false)) (step_pick_no (x := .tmp 14) (by kernel_rfl) (Opd.of_base 10 rfl) (Opd.const _) rfl) (by kernel_rfl) (by decide) h ?_
  clear h
  intro a w h
  refine env_one (i := 9) (d := 16) (k := .val (.bool false)) (step_move (by kernel_rfl) (Opd.of_base 15 rfl) rfl) (by kernel_rfl) (by decide) h ?_
  clear h
  intro a w h
  refine env_skip (i := 10) (d := 17) (g := 9) (dg := 16) (b := true) (by kernel_rfl) (by decide) (by kernel_rfl) rfl rfl h ?_
  clear h
  intro a w h
  refine env_skip (i := 11) (d := 18) (g := 9) (dg := 16) (b := true) (by kernel_rfl) (by decide) (by kernel_rfl) rfl rfl h ?_
  clear h
  intro a w h
  refine env_skip (i := 12) (d := 19) (g := 9) (dg := 16) (b := true) (by kernel_rfl) (by decide) (by kernel_rfl) rfl rfl h ?_
  clear h
  intro a w h
  refine env_skip (i := 13) (d := 20) (g := 9) (dg := 16) (b := true) (by kernel_rfl) (by decide) (by kernel_rfl) rfl rfl h ?_
  clear h
  intro a w h
  refine env_skip (i := 14) (d := 21) (g := 9) (dg := 16) (b := true) (by kernel_rfl) (by decide) (by kernel_rfl) rfl rfl h ?_
  clear h
  intro a w h
  refine env_one (i := 15) (d := 22) (k := .val (.bool false)) (step_pick_no (x := .tmp 21) (by kernel_rfl) (Opd.of_base 16 rfl) (Opd.const _) rfl) (by kernel_rfl) (by decide) h ?_
  clear h
  intro a w h
  refine env_one (i := 16) (d := 6) (k := .val (.bool false)) (step_assign (by kernel_rfl) (Opd.of_base 22 rfl) rfl) (by kernel_rfl) (by decide) h ?_
  clear h
  intro a w h
  exact hQ a w (h.keep [6])
theorem bIs1b_region {Q : Exit → Act → World → Prop} (p0 : Pay) (l0 : Fo) (s1 : ByteArray) (s2 : Int) (h1 : p0.1 = 3) (h2 : ¬ p0.2.2 = s1) {w0 : World} {a : Act} {w : World} (h : Hold 23 [(1, .val (.string s1)), (2, .val (.int .i64 s2)), (3, .ptrT p0 l0), (6, .val (.bool false))] w0 a w)
    (hQ : ∀ a' w', Hold 23 [(6, .val (.bool false))] w0 a' w' → Q .normal a' w') : (Code.region 1 bIs1Ops false).wp Try.prog Q a w := by
  refine region_seq (w0 := w) 17 (by kernel_rfl) ?_
  rw [show List.range 17 = [0, 1, 2, 3, 4, 5, 6, 7, 8, 9, 10, 11, 12, 13, 14, 15, 16] from rfl]
  refine env_one (i := 0) (d := 7) (k := .ptrI (p0.1)) (step_field0 (by kernel_rfl) (Opd.of_base 3 rfl) rfl) (by kernel_rfl) (by decide) h ?_
  clear h
  intro a w h
  refine env_one (i := 1) (d := 8) (k := .val (.int .i64 (p0.1))) (step_load_int3 (by kernel_rfl) (Opd.of_base 7 rfl) rfl) (by kernel_rfl) (by decide) h ?_
  clear h
  intro a w h
  refine env_one (i := 2) (d := 9) (k := .val (.bool true)) (step_eqb_int (m := (p0.1)) (n := 3) (by kernel_rfl) (Opd.of_base 8 rfl) (Opd.const _) (by rw [h1]; simp) rfl) (by kernel_rfl) (by decide) h ?_
  clear h
  intro a w h
  refine env_one (i := 3) (d := 10) (k := .val (.bool true)) (step_move (by kernel_rfl) (Opd.of_base 9 rfl) rfl) (by kernel_rfl) (by decide) h ?_
  clear h
  intro a w h
  refine env_guard (i := 4) (d := 11) (g := 3) (dg := 10) (b := true) (k := .ptrS (p0.2.2)) (step_field2 (by kernel_rfl) (Opd.of_base 3 rfl) rfl) (by kernel_rfl) (by decide) (by kernel_rfl) (by decide) rfl h ?_
  clear h
  intro a w h
  refine env_guard (i := 5) (d := 12) (g := 3) (dg := 10) (b := true) (k := .val (.string (p0.2.2))) (step_load_string (by kernel_rfl) (Opd.of_base 11 rfl) rfl) (by kernel_rfl) (by decide) (by kernel_rfl) (by decide) rfl h ?_
  clear h
  intro a w h
  refine env_guard (i := 6) (d := 13) (g := 3) (dg := 10) (b := true) (k := .val (.string s1)) (step_move (by kernel_rfl) (Opd.of_base 1 rfl) rfl) (by kernel_rfl) (by decide) (by kernel_rfl) (by decide) rfl h ?_
  clear h
  intro a w h
  refine env_guard (i := 7) (d := 14) (g := 3) (dg := 10) (b := true) (k := .val (.bool false)) (step_eqb_str (by kernel_rfl) (Opd.of_base 12 rfl) (Opd.of_base 13 rfl) (decide_eq_false h2) rfl) (by kernel_rfl) (by decide) (by kernel_rfl) (by decide) rfl h ?_
  clear h
  intro a w h
  refine env_one (i := 8) (d := 15) (k := .val (.bool false)) (step_pick_yes (y := .const (.bool false)) (by kernel_rfl) (Opd.of_base 10 rfl) (Opd.of_base 14 rfl) rfl) (by kernel_rfl) (by decide) h ?_
  clear h
  intro a w h
  refine env_one (i := 9) (d := 16) (k := .val (.bool false)) (step_move (by kernel_rfl) (Opd.of_base 15 rfl) rfl) (by kernel_rfl) (by decide) h ?_
  clear h
  intro a w h
  refine env_skip (i := 10) (d := 17) (g := 9) (dg := 16) (b := true) (by kernel_rfl) (by decide) (by kernel_rfl) rfl rfl h ?_
  clear h
  intro a w h
  refine env_skip (i := 11) (d := 18) (g := 9) (dg := 16) (b := true) (by kernel_rfl) (by decide) (by kernel_rfl) rfl rfl h ?_
  clear h
  intro a w h
  refine env_skip (i := 12) (d := 19) (g := 9) (dg := 16) (b := true) (by kernel_rfl) (by decide) (by kernel_rfl) rfl rfl h ?_
  clear h
  intro a w h
  refine env_skip (i := 13) (d := 20) (g := 9) (dg := 16) (b := true) (by kernel_rfl) (by decide) (by kernel_rfl) rfl rfl h ?_
  clear h
  intro a w h
  refine env_skip (i := 14) (d := 21) (g := 9) (dg := 16) (b := true) (by kernel_rfl) (by decide) (by kernel_rfl) rfl rfl h ?_
  clear h
  intro a w h
  refine env_one (i := 15) (d := 22) (k := .val (.bool false)) (step_pick_no (x := .tmp 21) (by kernel_rfl) (Opd.of_base 16 rfl) (Opd.const _) rfl) (by kernel_rfl) (by decide) h ?_
  clear h
  intro a w h
  refine env_one (i := 16) (d := 6) (k := .val (.bool false)) (step_assign (by kernel_rfl) (Opd.of_base 22 rfl) rfl) (by kernel_rfl) (by decide) h ?_
  clear h
  intro a w h
  exact hQ a w (h.keep [6])
theorem bIs1c_region {Q : Exit → Act → World → Prop} (p0 : Pay) (l0 : Fo) (s1 : ByteArray) (s2 : Int) (h1 : p0.1 = 3) (h2 : p0.2.2 = s1) (h3 : ¬ ((Tm.len l0 : Nat) : Int) = s2) {w0 : World} {a : Act} {w : World} (h : Hold 23 [(1, .val (.string s1)), (2, .val (.int .i64 s2)), (3, .ptrT p0 l0), (6, .val (.bool false))] w0 a w)
    (hQ : ∀ a' w', Hold 23 [(6, .val (.bool false))] w0 a' w' → Q .normal a' w') : (Code.region 1 bIs1Ops false).wp Try.prog Q a w := by
  refine region_seq (w0 := w) 17 (by kernel_rfl) ?_
  rw [show List.range 17 = [0, 1, 2, 3, 4, 5, 6, 7, 8, 9, 10, 11, 12, 13, 14, 15, 16] from rfl]
  refine env_one (i := 0) (d := 7) (k := .ptrI (p0.1)) (step_field0 (by kernel_rfl) (Opd.of_base 3 rfl) rfl) (by kernel_rfl) (by decide) h ?_
  clear h
  intro a w h
  refine env_one (i := 1) (d := 8) (k := .val (.int .i64 (p0.1))) (step_load_int3 (by kernel_rfl) (Opd.of_base 7 rfl) rfl) (by kernel_rfl) (by decide) h ?_
  clear h
  intro a w h
  refine env_one (i := 2) (d := 9) (k := .val (.bool true)) (step_eqb_int (m := (p0.1)) (n := 3) (by kernel_rfl) (Opd.of_base 8 rfl) (Opd.const _) (by rw [h1]; simp) rfl) (by kernel_rfl) (by decide) h ?_
  clear h
  intro a w h
  refine env_one (i := 3) (d := 10) (k := .val (.bool true)) (step_move (by kernel_rfl) (Opd.of_base 9 rfl) rfl) (by kernel_rfl) (by decide) h ?_
  clear h
  intro a w h
  refine env_guard (i := 4) (d := 11) (g := 3) (dg := 10) (b := true) (k := .ptrS (p0.2.2)) (step_field2 (by kernel_rfl) (Opd.of_base 3 rfl) rfl) (by kernel_rfl) (by decide) (by kernel_rfl) (by decide) rfl h ?_
  clear h
  intro a w h
  refine env_guard (i := 5) (d := 12) (g := 3) (dg := 10) (b := true) (k := .val (.string (p0.2.2))) (step_load_string (by kernel_rfl) (Opd.of_base 11 rfl) rfl) (by kernel_rfl) (by decide) (by kernel_rfl) (by decide) rfl h ?_
  clear h
  intro a w h
  refine env_guard (i := 6) (d := 13) (g := 3) (dg := 10) (b := true) (k := .val (.string s1)) (step_move (by kernel_rfl) (Opd.of_base 1 rfl) rfl) (by kernel_rfl) (by decide) (by kernel_rfl) (by decide) rfl h ?_
  clear h
  intro a w h
  refine env_guard (i := 7) (d := 14) (g := 3) (dg := 10) (b := true) (k := .val (.bool true)) (step_eqb_str (by kernel_rfl) (Opd.of_base 12 rfl) (Opd.of_base 13 rfl) (decide_eq_true h2) rfl) (by kernel_rfl) (by decide) (by kernel_rfl) (by decide) rfl h ?_
  clear h
  intro a w h
  refine env_one (i := 8) (d := 15) (k := .val (.bool true)) (step_pick_yes (y := .const (.bool false)) (by kernel_rfl) (Opd.of_base 10 rfl) (Opd.of_base 14 rfl) rfl) (by kernel_rfl) (by decide) h ?_
  clear h
  intro a w h
  refine env_one (i := 9) (d := 16) (k := .val (.bool true)) (step_move (by kernel_rfl) (Opd.of_base 15 rfl) rfl) (by kernel_rfl) (by decide) h ?_
  clear h
  intro a w h
  refine env_guard (i := 10) (d := 17) (g := 9) (dg := 16) (b := true) (k := .ptrR l0) (step_field3 (by kernel_rfl) (Opd.of_base 3 rfl) rfl) (by kernel_rfl) (by decide) (by kernel_rfl) (by decide) rfl h ?_
  clear h
  intro a w h
  refine env_guard (i := 11) (d := 18) (g := 9) (dg := 16) (b := true) (k := .row l0) (step_load_row (by kernel_rfl) (Opd.of_base 17 rfl) rfl) (by kernel_rfl) (by decide) (by kernel_rfl) (by decide) rfl h ?_
  clear h
  intro a w h
  refine env_guard (i := 12) (d := 19) (g := 9) (dg := 16) (b := true) (k := .val (.int .i64 ((Tm.len l0 : Nat) : Int))) (step_len_row (by kernel_rfl) (Opd.of_base 18 rfl) rfl) (by kernel_rfl) (by decide) (by kernel_rfl) (by decide) rfl h ?_
  clear h
  intro a w h
  refine env_guard (i := 13) (d := 20) (g := 9) (dg := 16) (b := true) (k := .val (.int .i64 s2)) (step_move (by kernel_rfl) (Opd.of_base 2 rfl) rfl) (by kernel_rfl) (by decide) (by kernel_rfl) (by decide) rfl h ?_
  clear h
  intro a w h
  refine env_guard (i := 14) (d := 21) (g := 9) (dg := 16) (b := true) (k := .val (.bool false)) (step_eqb_int (m := ((Tm.len l0 : Nat) : Int)) (n := s2) (by kernel_rfl) (Opd.of_base 19 rfl) (Opd.of_base 20 rfl) (by simpa using h3) rfl) (by kernel_rfl) (by decide) (by kernel_rfl) (by decide) rfl h ?_
  clear h
  intro a w h
  refine env_one (i := 15) (d := 22) (k := .val (.bool false)) (step_pick_yes (y := .const (.bool false)) (by kernel_rfl) (Opd.of_base 16 rfl) (Opd.of_base 21 rfl) rfl) (by kernel_rfl) (by decide) h ?_
  clear h
  intro a w h
  refine env_one (i := 16) (d := 6) (k := .val (.bool false)) (step_assign (by kernel_rfl) (Opd.of_base 22 rfl) rfl) (by kernel_rfl) (by decide) h ?_
  clear h
  intro a w h
  exact hQ a w (h.keep [6])
theorem bIs1d_region {Q : Exit → Act → World → Prop} (p0 : Pay) (l0 : Fo) (s1 : ByteArray) (s2 : Int) (h1 : p0.1 = 3) (h2 : p0.2.2 = s1) (h3 : ((Tm.len l0 : Nat) : Int) = s2) {w0 : World} {a : Act} {w : World} (h : Hold 23 [(1, .val (.string s1)), (2, .val (.int .i64 s2)), (3, .ptrT p0 l0), (6, .val (.bool false))] w0 a w)
    (hQ : ∀ a' w', Hold 23 [(6, .val (.bool true))] w0 a' w' → Q .normal a' w') : (Code.region 1 bIs1Ops false).wp Try.prog Q a w := by
  refine region_seq (w0 := w) 17 (by kernel_rfl) ?_
  rw [show List.range 17 = [0, 1, 2, 3, 4, 5, 6, 7, 8, 9, 10, 11, 12, 13, 14, 15, 16] from rfl]
  refine env_one (i := 0) (d := 7) (k := .ptrI (p0.1)) (step_field0 (by kernel_rfl) (Opd.of_base 3 rfl) rfl) (by kernel_rfl) (by decide) h ?_
  clear h
  intro a w h
  refine env_one (i := 1) (d := 8) (k := .val (.int .i64 (p0.1))) (step_load_int3 (by kernel_rfl) (Opd.of_base 7 rfl) rfl) (by kernel_rfl) (by decide) h ?_
  clear h
  intro a w h
  refine env_one (i := 2) (d := 9) (k := .val (.bool true)) (step_eqb_int (m := (p0.1)) (n := 3) (by kernel_rfl) (Opd.of_base 8 rfl) (Opd.const _) (by rw [h1]; simp) rfl) (by kernel_rfl) (by decide) h ?_
  clear h
  intro a w h
  refine env_one (i := 3) (d := 10) (k := .val (.bool true)) (step_move (by kernel_rfl) (Opd.of_base 9 rfl) rfl) (by kernel_rfl) (by decide) h ?_
  clear h
  intro a w h
  refine env_guard (i := 4) (d := 11) (g := 3) (dg := 10) (b := true) (k := .ptrS (p0.2.2)) (step_field2 (by kernel_rfl) (Opd.of_base 3 rfl) rfl) (by kernel_rfl) (by decide) (by kernel_rfl) (by decide) rfl h ?_
  clear h
  intro a w h
  refine env_guard (i := 5) (d := 12) (g := 3) (dg := 10) (b := true) (k := .val (.string (p0.2.2))) (step_load_string (by kernel_rfl) (Opd.of_base 11 rfl) rfl) (by kernel_rfl) (by decide) (by kernel_rfl) (by decide) rfl h ?_
  clear h
  intro a w h
  refine env_guard (i := 6) (d := 13) (g := 3) (dg := 10) (b := true) (k := .val (.string s1)) (step_move (by kernel_rfl) (Opd.of_base 1 rfl) rfl) (by kernel_rfl) (by decide) (by kernel_rfl) (by decide) rfl h ?_
  clear h
  intro a w h
  refine env_guard (i := 7) (d := 14) (g := 3) (dg := 10) (b := true) (k := .val (.bool true)) (step_eqb_str (by kernel_rfl) (Opd.of_base 12 rfl) (Opd.of_base 13 rfl) (decide_eq_true h2) rfl) (by kernel_rfl) (by decide) (by kernel_rfl) (by decide) rfl h ?_
  clear h
  intro a w h
  refine env_one (i := 8) (d := 15) (k := .val (.bool true)) (step_pick_yes (y := .const (.bool false)) (by kernel_rfl) (Opd.of_base 10 rfl) (Opd.of_base 14 rfl) rfl) (by kernel_rfl) (by decide) h ?_
  clear h
  intro a w h
  refine env_one (i := 9) (d := 16) (k := .val (.bool true)) (step_move (by kernel_rfl) (Opd.of_base 15 rfl) rfl) (by kernel_rfl) (by decide) h ?_
  clear h
  intro a w h
  refine env_guard (i := 10) (d := 17) (g := 9) (dg := 16) (b := true) (k := .ptrR l0) (step_field3 (by kernel_rfl) (Opd.of_base 3 rfl) rfl) (by kernel_rfl) (by decide) (by kernel_rfl) (by decide) rfl h ?_
  clear h
  intro a w h
  refine env_guard (i := 11) (d := 18) (g := 9) (dg := 16) (b := true) (k := .row l0) (step_load_row (by kernel_rfl) (Opd.of_base 17 rfl) rfl) (by kernel_rfl) (by decide) (by kernel_rfl) (by decide) rfl h ?_
  clear h
  intro a w h
  refine env_guard (i := 12) (d := 19) (g := 9) (dg := 16) (b := true) (k := .val (.int .i64 ((Tm.len l0 : Nat) : Int))) (step_len_row (by kernel_rfl) (Opd.of_base 18 rfl) rfl) (by kernel_rfl) (by decide) (by kernel_rfl) (by decide) rfl h ?_
  clear h
  intro a w h
  refine env_guard (i := 13) (d := 20) (g := 9) (dg := 16) (b := true) (k := .val (.int .i64 s2)) (step_move (by kernel_rfl) (Opd.of_base 2 rfl) rfl) (by kernel_rfl) (by decide) (by kernel_rfl) (by decide) rfl h ?_
  clear h
  intro a w h
  refine env_guard (i := 14) (d := 21) (g := 9) (dg := 16) (b := true) (k := .val (.bool true)) (step_eqb_int (m := ((Tm.len l0 : Nat) : Int)) (n := s2) (by kernel_rfl) (Opd.of_base 19 rfl) (Opd.of_base 20 rfl) (by rw [h3]; simp) rfl) (by kernel_rfl) (by decide) (by kernel_rfl) (by decide) rfl h ?_
  clear h
  intro a w h
  refine env_one (i := 15) (d := 22) (k := .val (.bool true)) (step_pick_yes (y := .const (.bool false)) (by kernel_rfl) (Opd.of_base 16 rfl) (Opd.of_base 21 rfl) rfl) (by kernel_rfl) (by decide) h ?_
  clear h
  intro a w h
  refine env_one (i := 16) (d := 6) (k := .val (.bool true)) (step_assign (by kernel_rfl) (Opd.of_base 22 rfl) rfl) (by kernel_rfl) (by decide) h ?_
  clear h
  intro a w h
  exact hQ a w (h.keep [6])
set_option maxHeartbeats 1000000 in
theorem bIs_any (p0 : Pay) (l0 : Fo) (A0 : Option Addr) (c0 : Nat) (s1 : ByteArray) (s2 : Int) (B : Nat) (w : World) (hA0 : ArgsB w B A0 (Tm.len l0) l0) (hB : B ≤ w.heap.size)  : Calls Try.prog 71 #[tv p0 A0 (Tm.len l0) c0, Value.string s1, Value.int .i64 s2] w (fun e w' => e = .returned (.bool (Bl.isS p0 l0 s1 s2)) ∧ Below w.heap.size w w') := by
  refine calls_of_wp Try.func71 bIs_body ?_
  obtain ⟨v0, hv0⟩ : ∃ v : Value, v = tv p0 A0 (Tm.len l0) c0 := ⟨_, rfl⟩
  obtain ⟨v1, hv1⟩ : ∃ v : Value, v = Value.string s1 := ⟨_, rfl⟩
  obtain ⟨v2, hv2⟩ : ∃ v : Value, v = Value.int .i64 s2 := ⟨_, rfl⟩
  rw [← hv0, ← hv1, ← hv2]
  have hk0 : (Kd.term p0 l0).R v0 w := by rw [hv0]; exact ⟨A0, c0, rfl, hA0.up hB⟩
  have hk1 : (Kd.val (.string s1)).R v1 w := hv1
  have hk2 : (Kd.val (.int .i64 s2)).R v2 w := hv2
  have hsN : (#[v0, v1, v2] ++ Array.replicate (Try.f71.ntmps - #[v0, v1, v2].size) undef : Array Value).size = 23 := by kernel_rfl
  have gs0 : (#[v0, v1, v2] ++ Array.replicate (Try.f71.ntmps - #[v0, v1, v2].size) undef : Array Value).getD 0 undef = v0 := by kernel_rfl
  have gs1 : (#[v0, v1, v2] ++ Array.replicate (Try.f71.ntmps - #[v0, v1, v2].size) undef : Array Value).getD 1 undef = v1 := by kernel_rfl
  have gs2 : (#[v0, v1, v2] ++ Array.replicate (Try.f71.ntmps - #[v0, v1, v2].size) undef : Array Value).getD 2 undef = v2 := by kernel_rfl
  generalize (#[v0, v1, v2] ++ Array.replicate (Try.f71.ntmps - #[v0, v1, v2].size) undef : Array Value) = tm at hsN gs0 gs1 gs2 ⊢
  obtain ⟨a, ha0⟩ : ∃ a : Act, a = ⟨tm, []⟩ := ⟨_, rfl⟩
  have h : Hold 23 [(0, .term p0 l0), (1, .val (.string s1)), (2, .val (.int .i64 s2))] w ⟨tm, []⟩ w := ⟨hsN, rfl, Below.refl _ _, (slots_cons 0 (by rw [gs0]; exact hk0) (slots_cons 1 (by rw [gs1]; exact hk1) (slots_cons 2 (by rw [gs2]; exact hk2) slots_nil)))⟩
  refine wp_seq ?_
  refine bIs0a_region p0 l0 s1 s2  h ?_
  intro a w1 h
  show Code.wp _ _ _ a w1
  refine wp_seq ?_
  by_cases h1 : p0.1 = 3
  rotate_left
  · refine bIs1a_region p0 l0 s1 s2 h1 h ?_
    intro a w1 h
    show Code.wp _ _ _ a w1
    have ev : Bl.isS p0 l0 s1 s2 = false := by simp [Bl.isS, h1]
    rw [ev]
    refine wp_ret ?_
    (try simp only [then_ret, block_ret])
    exact law_out rfl (h.get 6 rfl) h.defers ⟨rfl, h.world⟩
  by_cases h2 : p0.2.2 = s1
  rotate_left
  · refine bIs1b_region p0 l0 s1 s2 h1 h2 h ?_
    intro a w1 h
    show Code.wp _ _ _ a w1
    have ev : Bl.isS p0 l0 s1 s2 = false := by simp [Bl.isS, h1, h2]
    rw [ev]
    refine wp_ret ?_
    (try simp only [then_ret, block_ret])
    exact law_out rfl (h.get 6 rfl) h.defers ⟨rfl, h.world⟩
  by_cases h3 : ((Tm.len l0 : Nat) : Int) = s2
  rotate_left
  · refine bIs1c_region p0 l0 s1 s2 h1 h2 h3 h ?_
    intro a w1 h
    show Code.wp _ _ _ a w1
    have ev : Bl.isS p0 l0 s1 s2 = false := by simp [Bl.isS, h1, h2, h3]
    rw [ev]
    refine wp_ret ?_
    (try simp only [then_ret, block_ret])
    exact law_out rfl (h.get 6 rfl) h.defers ⟨rfl, h.world⟩
  · refine bIs1d_region p0 l0 s1 s2 h1 h2 h3 h ?_
    intro a w1 h
    show Code.wp _ _ _ a w1
    have ev : Bl.isS p0 l0 s1 s2 = true := by simp [Bl.isS, h1, h2, h3]
    rw [ev]
    refine wp_ret ?_
    (try simp only [then_ret, block_ret])
    exact law_out rfl (h.get 6 rfl) h.defers ⟨rfl, h.world⟩
section
variable {ops : Array Oper} {Q : Exit → Act → World → Prop} {E : Nat → Kd} {D : Nat → Nat} {base : Nat → Option Kd} {N : Nat}
theorem step_bIs {i : Nat} {x0 x1 x2 : Operand} {p0 : Pay} {l0 : Fo} {s1 : ByteArray} {s2 : Int} (hop : (ops[i]?).map (·.op) = some (.call { callee := .value (.func 71), args := #[x0, x1, x2], argTypes := #[24, 9, 3] })) (h0 : Opd ops E D base N i x0 (.term p0 l0)) (h1 : Opd ops E D base N i x1 (.val (.string s1))) (h2 : Opd ops E D base N i x2 (.val (.int .i64 s2))) (hE : E i = .val ((.bool (Bl.isS p0 l0 s1 s2)))) : Step Try.prog ops Q E D base N i :=
  step_call hop (fun _ _ => by kernel_rfl) fun a w h => by
    obtain ⟨A0, c0, e0, ha0⟩ := h0 a w h
    have e1 : a.eval x1 = .string s1 := h1 a w h
    have e2 : a.eval x2 = .int .i64 s2 := h2 a w h
    rw [show (#[x0, x1, x2] : Array Operand).map a.eval = #[tv p0 A0 (Tm.len l0) c0, .string s1, .int .i64 s2] by rw [← e0, ← e1, ← e2]; simp]
    exact (bIs_any p0 l0 A0 c0 s1 s2 w.heap.size w ha0 (Nat.le_refl _)).mono fun e w' ⟨he, hbl⟩ => ⟨_, he, by rw [hE]; rfl, hbl⟩
end
noncomputable def bCheck0Ops : Array Oper := ((Try.f73.body).bind (findReg 0)).getD #[]
noncomputable def bCheck1Ops : Array Oper := ((Try.f73.body).bind (findReg 1)).getD #[]
noncomputable def bCheck2Ops : Array Oper := ((Try.f73.body).bind (findReg 2)).getD #[]
noncomputable def bCheck3Ops : Array Oper := ((Try.f73.body).bind (findReg 3)).getD #[]
noncomputable def bCheck4Ops : Array Oper := ((Try.f73.body).bind (findReg 4)).getD #[]
noncomputable def bCheck5Ops : Array Oper := ((Try.f73.body).bind (findReg 5)).getD #[]
noncomputable def bCheck6Ops : Array Oper := ((Try.f73.body).bind (findReg 6)).getD #[]
noncomputable def bCheck7Ops : Array Oper := ((Try.f73.body).bind (findReg 7)).getD #[]
theorem bCheck_body : Try.f73.body = some (.seq (.region 0 bCheck0Ops false) (.seq (.block 0 (.seq (.region 1 bCheck1Ops false) (.cond (.tmp 8) (.seq (.region 2 bCheck2Ops false) .ret) (.seq (.region 3 bCheck3Ops false) (.cond (.tmp 13) (.seq (.region 4 bCheck4Ops false) .ret) (.seq (.region 5 bCheck5Ops false) (.cond (.tmp 17) (.seq (.region 6 bCheck6Ops false) .ret) .skip))))))) (.seq (.region 7 bCheck7Ops false) .ret))) := by kernel_rfl
theorem bCheck0a_region {Q : Exit → Act → World → Prop} (p0 : Pay) (l0 : Fo) (s1 : Bool) (s2 : ByteArray) (nb : Nat)  {w0 : World} {a : Act} {w : World} (hn : nb ≤ w0.heap.size) (h : Hold 24 [(0, .term p0 l0), (1, .val (.bool s1)), (2, .val (.string s2))] w0 a w)
    (hQ : ∀ r a' w', w0.heap.size ≤ r → Hold 24 [(1, .val (.bool s1)), (2, .val (.string s2)), (3, .sat (nP 0 (some r) p0 l0)), (6, .sat (rC nb r zp .nil)), (990, .sat (gP nb (some r))), (7, .val (.bool false))] w0 a' w' → Q .normal a' w') : (Code.region 0 bCheck0Ops false).wp Try.prog Q a w := by
  refine region_seq (w0 := w) 3 (by kernel_rfl) ?_
  rw [show List.range 3 = [0, 1, 2] from rfl]
  refine env_one (i := 0) (d := 3) (k := .ptrT p0 l0) (step_box (by kernel_rfl) (Opd.of_base 0 rfl) rfl) (by kernel_rfl) (by decide) h ?_
  clear h
  intro a w h
  refine env_res (i := 1) (d := 6) (n := nb) (fun r => [(0, .sat (nT 0 (some r) p0 l0)), (1, .val (.bool s1)), (2, .val (.string s2)), (3, .sat (nP 0 (some r) p0 l0))]) (by kernel_rfl) (by decide) (by decide) hn (fun r => (goes_cons 0 rfl (turns_term _ _ _) (goes_cons 1 rfl (turns_val _ _) (goes_cons 2 rfl (turns_val _ _) (goes_cons 3 rfl (turns_ptr _ _ _) (goes_nil _ _)))))) h ?_
  clear h
  intro r a w hr h
  refine env_one (i := 2) (d := 7) (k := .val (.bool false)) (step_assign (by kernel_rfl) (Opd.const _) rfl) (by kernel_rfl) (by decide) h ?_
  clear h
  intro a w h
  exact hQ r a w hr (h.keep [1, 2, 3, 6, 990, 7])
theorem bCheck1a_region {Q : Exit → Act → World → Prop} (p0 : Pay) (l0 : Fo) (s1 : Bool) (s2 : ByteArray) (nb r : Nat)  {w0 : World} {a : Act} {w : World} (hr : w0.heap.size ≤ r) (h : Hold 24 [(1, .val (.bool s1)), (2, .val (.string s2)), (3, .sat (nP 0 (some r) p0 l0)), (6, .sat (rC nb r zp .nil)), (990, .sat (gP nb (some r))), (7, .val (.bool false))] w0 a w)
    (hQ : ∀ a' w', Hold 24 [(1, .val (.bool s1)), (2, .val (.string s2)), (3, .sat (nP 0 (some r) p0 l0)), (6, .sat (rC nb r zp .nil)), (990, .sat (gP nb (some r))), (7, .val (.bool false)), (8, .val (.bool (!(Tm.validB p0 l0))))] w0 a' w' → Q .normal a' w') : (Code.region 1 bCheck1Ops false).wp Try.prog Q a w := by
  refine region_seq (w0 := w) 4 (by kernel_rfl) ?_
  rw [show List.range 4 = [0, 1, 2, 3] from rfl]
  refine env_one (i := 0) (d := 9) (k := .sat (nT 0 (some r) p0 l0)) (step_nload (by kernel_rfl) (Opd.of_base 3 rfl) rfl) (by kernel_rfl) (by decide) h ?_
  clear h
  intro a w h
  refine env_one (i := 1) (d := 10) (k := .val (.bool (Tm.validB p0 l0))) (step_valid6 (by kernel_rfl) (Opd.ofT (Opd.of_base 9 rfl)) rfl) (by kernel_rfl) (by decide) h ?_
  clear h
  intro a w h
  refine env_one (i := 2) (d := 11) (k := .val (.bool (!(Tm.validB p0 l0)))) (step_not (by kernel_rfl) (Opd.of_base 10 rfl) rfl) (by kernel_rfl) (by decide) h ?_
  clear h
  intro a w h
  refine env_one (i := 3) (d := 8) (k := .val (.bool (!(Tm.validB p0 l0)))) (step_assign (by kernel_rfl) (Opd.of_base 11 rfl) rfl) (by kernel_rfl) (by decide) h ?_
  clear h
  intro a w h
  exact hQ a w (h.keep [1, 2, 3, 6, 990, 7, 8])
theorem bCheck3a_region {Q : Exit → Act → World → Prop} (p0 : Pay) (l0 : Fo) (s1 : Bool) (s2 : ByteArray) (nb r : Nat)  {w0 : World} {a : Act} {w : World} (hr : w0.heap.size ≤ r) (h : Hold 24 [(1, .val (.bool s1)), (2, .val (.string s2)), (3, .sat (nP 0 (some r) p0 l0)), (6, .sat (rC nb r zp .nil)), (990, .sat (gP nb (some r))), (7, .val (.bool false))] w0 a w)
    (hQ : ∀ a' w', Hold 24 [(1, .val (.bool s1)), (2, .val (.string s2)), (3, .sat (nP 0 (some r) p0 l0)), (6, .sat (rC nb r zp .nil)), (990, .sat (gP nb (some r))), (7, .val (.bool false)), (13, .val (.bool (decide (p0.1 = 0))))] w0 a' w' → Q .normal a' w') : (Code.region 3 bCheck3Ops false).wp Try.prog Q a w := by
  refine region_seq (w0 := w) 3 (by kernel_rfl) ?_
  rw [show List.range 3 = [0, 1, 2] from rfl]
  refine env_one (i := 0) (d := 14) (k := .sat (nT 0 (some r) p0 l0)) (step_nload (by kernel_rfl) (Opd.of_base 3 rfl) rfl) (by kernel_rfl) (by decide) h ?_
  clear h
  intro a w h
  refine env_one (i := 1) (d := 15) (k := .val (.bool (decide (p0.1 = 0)))) (step_isVar6 (by kernel_rfl) (Opd.ofT (Opd.of_base 14 rfl)) rfl) (by kernel_rfl) (by decide) h ?_
  clear h
  intro a w h
  refine env_one (i := 2) (d := 13) (k := .val (.bool (decide (p0.1 = 0)))) (step_assign (by kernel_rfl) (Opd.of_base 15 rfl) rfl) (by kernel_rfl) (by decide) h ?_
  clear h
  intro a w h
  exact hQ a w (h.keep [1, 2, 3, 6, 990, 7, 13])
theorem bCheck4a_region {Q : Exit → Act → World → Prop} (p0 : Pay) (l0 : Fo) (s1 : Bool) (s2 : ByteArray) (nb r : Nat)  {w0 : World} {a : Act} {w : World} (hr : w0.heap.size ≤ r) (h : Hold 24 [(6, .sat (rC nb r zp .nil)), (990, .sat (gP nb (some r))), (7, .val (.bool false))] w0 a w)
    (hQ : ∀ a' w', Hold 24 [(990, .sat (gP nb (some r))), (7, .val (.bool false)), (6, .sat (rC nb r Bl.inst.1 Bl.inst.2))] w0 a' w' → Q .normal a' w') : (Code.region 4 bCheck4Ops false).wp Try.prog Q a w := by
  refine region_seq (w0 := w) 3 (by kernel_rfl) ?_
  rw [show List.range 3 = [0, 1, 2] from rfl]
  refine env_one (i := 0) (d := 16) (k := .sat (nT nb (some r) Bl.inst.1 Bl.inst.2)) (step_bInst (g := 990) (by kernel_rfl)  (Opd.of_base 990 rfl) rfl) (by kernel_rfl) (by decide) h ?_
  clear h
  intro a w h
  refine env_store (i := 1) (x := 6) (y := 16) (r := r) [(990, .sat (gP nb (some r))), (7, .val (.bool false)), (16, .sat (nT nb (some r) Bl.inst.1 Bl.inst.2))] (by kernel_rfl) rfl rfl hr (stays_cons 990 rfl (away_gP _ _ _) (stays_cons 7 rfl (away_val _ _) (stays_cons 16 rfl (away_nT _ _ _ _) (stays_nil _ _)))) h ?_
  clear h
  intro a w h
  refine env_one (i := 2) (d := 7) (k := .val (.bool false)) (step_assign (by kernel_rfl) (Opd.const _) rfl) (by kernel_rfl) (by decide) h ?_
  clear h
  intro a w h
  exact hQ a w (h.keep [990, 7, 6])
theorem bCheck5a_region {Q : Exit → Act → World → Prop} (p0 : Pay) (l0 : Fo) (s1 : Bool) (s2 : ByteArray) (nb r : Nat)  {w0 : World} {a : Act} {w : World} (hr : w0.heap.size ≤ r) (h : Hold 24 [(1, .val (.bool s1)), (2, .val (.string s2)), (3, .sat (nP 0 (some r) p0 l0)), (6, .sat (rC nb r zp .nil)), (990, .sat (gP nb (some r))), (7, .val (.bool false))] w0 a w)
    (hQ : ∀ a' w', Hold 24 [(2, .val (.string s2)), (3, .sat (nP 0 (some r) p0 l0)), (6, .sat (rC nb r zp .nil)), (990, .sat (gP nb (some r))), (7, .val (.bool false)), (17, .val (.bool (!s1)))] w0 a' w' → Q .normal a' w') : (Code.region 5 bCheck5Ops false).wp Try.prog Q a w := by
  refine region_seq (w0 := w) 3 (by kernel_rfl) ?_
  rw [show List.range 3 = [0, 1, 2] from rfl]
  refine env_one (i := 0) (d := 18) (k := .val (.bool s1)) (step_move (by kernel_rfl) (Opd.of_base 1 rfl) rfl) (by kernel_rfl) (by decide) h ?_
  clear h
  intro a w h
  refine env_one (i := 1) (d := 19) (k := .val (.bool (!s1))) (step_not (by kernel_rfl) (Opd.of_base 18 rfl) rfl) (by kernel_rfl) (by decide) h ?_
  clear h
  intro a w h
  refine env_one (i := 2) (d := 17) (k := .val (.bool (!s1))) (step_assign (by kernel_rfl) (Opd.of_base 19 rfl) rfl) (by kernel_rfl) (by decide) h ?_
  clear h
  intro a w h
  exact hQ a w (h.keep [2, 3, 6, 990, 7, 17])
theorem bCheck7a_region {Q : Exit → Act → World → Prop} (p0 : Pay) (l0 : Fo) (s1 : Bool) (s2 : ByteArray) (nb r : Nat)  {w0 : World} {a : Act} {w : World} (hr : w0.heap.size ≤ r) (h : Hold 24 [(6, .sat (rC nb r zp .nil)), (990, .sat (gP nb (some r))), (7, .val (.bool false))] w0 a w)
    (hQ : ∀ a' w', Hold 24 [(990, .sat (gP nb (some r))), (7, .val (.bool true)), (6, .sat (rC nb r zp .nil))] w0 a' w' → Q .normal a' w') : (Code.region 7 bCheck7Ops false).wp Try.prog Q a w := by
  refine region_seq (w0 := w) 3 (by kernel_rfl) ?_
  rw [show List.range 3 = [0, 1, 2] from rfl]
  refine env_one (i := 0) (d := 23) (k := .sat (nT nb (some r) zp .nil)) (step_nzero (by kernel_rfl) rfl) (by kernel_rfl) (by decide) h ?_
  clear h
  intro a w h
  refine env_store (i := 1) (x := 6) (y := 23) (r := r) [(990, .sat (gP nb (some r))), (7, .val (.bool false)), (23, .sat (nT nb (some r) zp .nil))] (by kernel_rfl) rfl rfl hr (stays_cons 990 rfl (away_gP _ _ _) (stays_cons 7 rfl (away_val _ _) (stays_cons 23 rfl (away_nT _ _ _ _) (stays_nil _ _)))) h ?_
  clear h
  intro a w h
  refine env_one (i := 2) (d := 7) (k := .val (.bool true)) (step_assign (by kernel_rfl) (Opd.const _) rfl) (by kernel_rfl) (by decide) h ?_
  clear h
  intro a w h
  exact hQ a w (h.keep [990, 7, 6])
theorem bCheck6a_region {Q : Exit → Act → World → Prop} (p0 : Pay) (l0 : Fo) (s1 : Bool) (s2 : ByteArray) (nb r : Nat)  {w0 : World} {a : Act} {w : World} (hr : w0.heap.size ≤ r) (h : Hold 24 [(2, .val (.string s2)), (3, .sat (nP 0 (some r) p0 l0)), (6, .sat (rC nb r zp .nil)), (990, .sat (gP nb (some r))), (7, .val (.bool false))] w0 a w)
    (hQ : ∀ a' w', Hold 24 [(990, .sat (gP nb (some r))), (7, .val (.bool false)), (6, .sat (rC nb r ((Bl.ty s2 p0 l0).1) ((Bl.ty s2 p0 l0).2)))] w0 a' w' → Q .normal a' w') : (Code.region 6 bCheck6Ops false).wp Try.prog Q a w := by
  refine region_seq (w0 := w) 5 (by kernel_rfl) ?_
  rw [show List.range 5 = [0, 1, 2, 3, 4] from rfl]
  refine env_one (i := 0) (d := 20) (k := .val (.string s2)) (step_move (by kernel_rfl) (Opd.of_base 2 rfl) rfl) (by kernel_rfl) (by decide) h ?_
  clear h
  intro a w h
  refine env_one (i := 1) (d := 21) (k := .sat (nT 0 (some r) p0 l0)) (step_nload (by kernel_rfl) (Opd.of_base 3 rfl) rfl) (by kernel_rfl) (by decide) h ?_
  clear h
  intro a w h
  refine env_one (i := 2) (d := 22) (k := .sat (nT nb (some r) ((Bl.ty s2 p0 l0).1) ((Bl.ty s2 p0 l0).2))) (step_bTy (g := 990) (by kernel_rfl) (Opd.of_base 20 rfl) (Opd.ofT (Opd.of_base 21 rfl)) (Opd.of_base 990 rfl) rfl) (by kernel_rfl) (by decide) h ?_
  clear h
  intro a w h
  refine env_store (i := 3) (x := 6) (y := 22) (r := r) [(2, .val (.string s2)), (3, .sat (nP 0 (some r) p0 l0)), (990, .sat (gP nb (some r))), (7, .val (.bool false)), (20, .val (.string s2)), (21, .sat (nT 0 (some r) p0 l0)), (22, .sat (nT nb (some r) ((Bl.ty s2 p0 l0).1) ((Bl.ty s2 p0 l0).2)))] (by kernel_rfl) rfl rfl hr (stays_cons 2 rfl (away_val _ _) (stays_cons 3 rfl (away_nP _ _ _ _) (stays_cons 990 rfl (away_gP _ _ _) (stays_cons 7 rfl (away_val _ _) (stays_cons 20 rfl (away_val _ _) (stays_cons 21 rfl (away_nT _ _ _ _) (stays_cons 22 rfl (away_nT _ _ _ _) (stays_nil _ _)))))))) h ?_
  clear h
  intro a w h
  refine env_one (i := 4) (d := 7) (k := .val (.bool false)) (step_assign (by kernel_rfl) (Opd.const _) rfl) (by kernel_rfl) (by decide) h ?_
  clear h
  intro a w h
  exact hQ a w (h.keep [990, 7, 6])
theorem bCheck2a_region {Q : Exit → Act → World → Prop} (p0 : Pay) (l0 : Fo) (s1 : Bool) (s2 : ByteArray) (nb r : Nat)  {w0 : World} {a : Act} {w : World} (hr : w0.heap.size ≤ r) (h : Hold 24 [(6, .sat (rC nb r zp .nil)), (990, .sat (gP nb (some r))), (7, .val (.bool false))] w0 a w)
    (hQ : ∀ a' w', Hold 24 [(990, .sat (gP nb (some r))), (7, .val (.bool false)), (6, .sat (rC nb r zp .nil))] w0 a' w' → Q .normal a' w') : (Code.region 2 bCheck2Ops false).wp Try.prog Q a w := by
  refine region_seq (w0 := w) 3 (by kernel_rfl) ?_
  rw [show List.range 3 = [0, 1, 2] from rfl]
  refine env_one (i := 0) (d := 12) (k := .sat (nT nb (some r) zp .nil)) (step_nzero (by kernel_rfl) rfl) (by kernel_rfl) (by decide) h ?_
  clear h
  intro a w h
  refine env_store (i := 1) (x := 6) (y := 12) (r := r) [(990, .sat (gP nb (some r))), (7, .val (.bool false)), (12, .sat (nT nb (some r) zp .nil))] (by kernel_rfl) rfl rfl hr (stays_cons 990 rfl (away_gP _ _ _) (stays_cons 7 rfl (away_val _ _) (stays_cons 12 rfl (away_nT _ _ _ _) (stays_nil _ _)))) h ?_
  clear h
  intro a w h
  refine env_one (i := 2) (d := 7) (k := .val (.bool false)) (step_assign (by kernel_rfl) (Opd.const _) rfl) (by kernel_rfl) (by decide) h ?_
  clear h
  intro a w h
  exact hQ a w (h.keep [990, 7, 6])
set_option maxHeartbeats 1000000 in
theorem bCheck_any (p0 : Pay) (l0 : Fo) (A0 : Option Addr) (c0 : Nat) (s1 : Bool) (s2 : ByteArray) (B : Nat) (w : World) (hA0 : ArgsB w B A0 (Tm.len l0) l0) (hB : B ≤ w.heap.size)  : Calls Try.prog 73 #[tv p0 A0 (Tm.len l0) c0, Value.bool s1, Value.string s2] w (MkB w.heap.size ((Bl.check p0 l0 s1 s2).1).1 ((Bl.check p0 l0 s1 s2).1).2 ((Bl.check p0 l0 s1 s2).2) w) := by
  refine calls_of_wp Try.func73 bCheck_body ?_
  obtain ⟨v0, hv0⟩ : ∃ v : Value, v = tv p0 A0 (Tm.len l0) c0 := ⟨_, rfl⟩
  obtain ⟨v1, hv1⟩ : ∃ v : Value, v = Value.bool s1 := ⟨_, rfl⟩
  obtain ⟨v2, hv2⟩ : ∃ v : Value, v = Value.string s2 := ⟨_, rfl⟩
  rw [← hv0, ← hv1, ← hv2]
  have hk0 : (Kd.term p0 l0).R v0 w := by rw [hv0]; exact ⟨A0, c0, rfl, hA0.up hB⟩
  have hk1 : (Kd.val (.bool s1)).R v1 w := hv1
  have hk2 : (Kd.val (.string s2)).R v2 w := hv2
  have hsN : (#[v0, v1, v2] ++ Array.replicate (Try.f73.ntmps - #[v0, v1, v2].size) undef : Array Value).size = 24 := by kernel_rfl
  have gs0 : (#[v0, v1, v2] ++ Array.replicate (Try.f73.ntmps - #[v0, v1, v2].size) undef : Array Value).getD 0 undef = v0 := by kernel_rfl
  have gs1 : (#[v0, v1, v2] ++ Array.replicate (Try.f73.ntmps - #[v0, v1, v2].size) undef : Array Value).getD 1 undef = v1 := by kernel_rfl
  have gs2 : (#[v0, v1, v2] ++ Array.replicate (Try.f73.ntmps - #[v0, v1, v2].size) undef : Array Value).getD 2 undef = v2 := by kernel_rfl
  generalize (#[v0, v1, v2] ++ Array.replicate (Try.f73.ntmps - #[v0, v1, v2].size) undef : Array Value) = tm at hsN gs0 gs1 gs2 ⊢
  obtain ⟨a, ha0⟩ : ∃ a : Act, a = ⟨tm, []⟩ := ⟨_, rfl⟩
  have h : Hold 24 [(0, .term p0 l0), (1, .val (.bool s1)), (2, .val (.string s2))] w ⟨tm, []⟩ w := ⟨hsN, rfl, Below.refl _ _, (slots_cons 0 (by rw [gs0]; exact hk0) (slots_cons 1 (by rw [gs1]; exact hk1) (slots_cons 2 (by rw [gs2]; exact hk2) slots_nil)))⟩
  obtain ⟨nb, hnb⟩ : ∃ nb, nb = w.heap.size := ⟨_, rfl⟩
  have hn : nb ≤ w.heap.size := by omega
  refine wp_seq ?_
  refine bCheck0a_region p0 l0 s1 s2 nb  hn h ?_
  intro r a w1 hr h
  show Code.wp _ _ _ a w1
  refine wp_seq ?_
  refine wp_block ?_
  refine wp_seq ?_
  rcases Bool.eq_false_or_eq_true (Tm.validB p0 l0) with hv | hv
  · refine bCheck1a_region p0 l0 s1 s2 nb r  hr h ?_
    intro a w1 h
    rw [hv] at h
    (try simp only [Bool.not_true, Bool.not_false] at h)
    show Code.wp _ _ _ a w1
    refine env_cond (b := false) rfl h ?_
    have h := h.keep [1, 2, 3, 6, 990, 7]
    show Code.wp _ _ _ a w1
    refine wp_seq ?_
    rcases Bool.eq_false_or_eq_true (decide (p0.1 = 0)) with hz | hz
    · refine bCheck3a_region p0 l0 s1 s2 nb r  hr h ?_
      intro a w1 h
      rw [hz] at h
      (try simp only [Bool.not_true, Bool.not_false] at h)
      show Code.wp _ _ _ a w1
      refine env_cond (b := true) rfl h ?_
      have h := h.keep [6, 990, 7]
      show Code.wp _ _ _ a w1
      refine wp_seq ?_
      refine bCheck4a_region p0 l0 s1 s2 nb r  hr h ?_
      intro a w1 h
      show Code.wp _ _ _ a w1
      have ev : Bl.check p0 l0 s1 s2 = ((Bl.inst.1, Bl.inst.2), false) := by simp [Bl.check, hv, of_decide_eq_true hz]
      rw [ev]
      refine wp_ret ?_
      (try simp only [then_ret, block_ret])
      exact law_cb rfl (h.get 7 rfl) (h.get 6 rfl) h.defers fun A c ha => ⟨A, c, rfl, ha.mono fun b hb => ⟨by have := hb.1; omega, hb.2.1⟩, h.world⟩
    · refine bCheck3a_region p0 l0 s1 s2 nb r  hr h ?_
      intro a w1 h
      rw [hz] at h
      (try simp only [Bool.not_true, Bool.not_false] at h)
      show Code.wp _ _ _ a w1
      refine env_cond (b := false) rfl h ?_
      have h := h.keep [1, 2, 3, 6, 990, 7]
      show Code.wp _ _ _ a w1
      refine wp_seq ?_
      rcases Bool.eq_false_or_eq_true s1 with hb | hb
      · refine bCheck5a_region p0 l0 s1 s2 nb r  hr h ?_
        intro a w1 h
        rw [hb] at h
        (try simp only [Bool.not_true, Bool.not_false] at h)
        show Code.wp _ _ _ a w1
        refine env_cond (b := false) rfl h ?_
        refine wp_skip ?_
        have h := h.keep [6, 990, 7]
        show Code.wp _ _ _ a w1
        refine wp_seq ?_
        refine bCheck7a_region p0 l0 s1 s2 nb r  hr h ?_
        intro a w1 h
        show Code.wp _ _ _ a w1
        have ev : Bl.check p0 l0 s1 s2 = ((zp, .nil), true) := by simp [Bl.check, hv, of_decide_eq_false hz, hb]
        rw [ev]
        refine wp_ret ?_
        (try simp only [then_ret, block_ret])
        exact law_cb rfl (h.get 7 rfl) (h.get 6 rfl) h.defers fun A c ha => ⟨A, c, rfl, ha.mono fun b hb => ⟨by have := hb.1; omega, hb.2.1⟩, h.world⟩
      · refine bCheck5a_region p0 l0 s1 s2 nb r  hr h ?_
        intro a w1 h
        rw [hb] at h
        (try simp only [Bool.not_true, Bool.not_false] at h)
        show Code.wp _ _ _ a w1
        refine env_cond (b := true) rfl h ?_
        have h := h.keep [2, 3, 6, 990, 7]
        show Code.wp _ _ _ a w1
        refine wp_seq ?_
        refine bCheck6a_region p0 l0 s1 s2 nb r  hr h ?_
        intro a w1 h
        show Code.wp _ _ _ a w1
        have ev : Bl.check p0 l0 s1 s2 = (((Bl.ty s2 p0 l0).1, (Bl.ty s2 p0 l0).2), false) := by simp [Bl.check, hv, of_decide_eq_false hz, hb]
        rw [ev]
        refine wp_ret ?_
        (try simp only [then_ret, block_ret])
        exact law_cb rfl (h.get 7 rfl) (h.get 6 rfl) h.defers fun A c ha => ⟨A, c, rfl, ha.mono fun b hb => ⟨by have := hb.1; omega, hb.2.1⟩, h.world⟩
  · refine bCheck1a_region p0 l0 s1 s2 nb r  hr h ?_
    intro a w1 h
    rw [hv] at h
    (try simp only [Bool.not_true, Bool.not_false] at h)
    show Code.wp _ _ _ a w1
    refine env_cond (b := true) rfl h ?_
    have h := h.keep [6, 990, 7]
    show Code.wp _ _ _ a w1
    refine wp_seq ?_
    refine bCheck2a_region p0 l0 s1 s2 nb r  hr h ?_
    intro a w1 h
    show Code.wp _ _ _ a w1
    have ev : Bl.check p0 l0 s1 s2 = ((zp, .nil), false) := by simp [Bl.check, hv]
    rw [ev]
    refine wp_ret ?_
    (try simp only [then_ret, block_ret])
    exact law_cb rfl (h.get 7 rfl) (h.get 6 rfl) h.defers fun A c ha => ⟨A, c, rfl, ha.mono fun b hb => ⟨by have := hb.1; omega, hb.2.1⟩, h.world⟩
section
variable {ops : Array Oper} {Q : Exit → Act → World → Prop} {E : Nat → Kd} {D : Nat → Nat} {base : Nat → Option Kd} {N : Nat}
theorem step_bCheck {i : Nat} {n g : Nat} {G : Option Nat} {x0 x1 x2 : Operand} {p0 : Pay} {l0 : Fo} {s1 : Bool} {s2 : ByteArray} (hop : (ops[i]?).map (·.op) = some (.call { callee := .value (.func 73), args := #[x0, x1, x2], argTypes := #[24, 4, 9] })) (h0 : Opd ops E D base N i x0 (.term p0 l0)) (h1 : Opd ops E D base N i x1 (.val (.bool s1))) (h2 : Opd ops E D base N i x2 (.val (.string s2))) (hg : Opd ops E D base N i (.tmp g) (.sat (gP n G))) (hE : E i = .sat (nT2 n G ((Bl.check p0 l0 s1 s2).1).1 ((Bl.check p0 l0 s1 s2).1).2 ((Bl.check p0 l0 s1 s2).2))) : Step Try.prog ops Q E D base N i :=
  step_mkB hop (fun _ _ => by kernel_rfl) hg (fun a w h => by
    obtain ⟨A0, c0, e0, ha0⟩ := h0 a w h
    have e1 : a.eval x1 = .bool s1 := h1 a w h
    have e2 : a.eval x2 = .string s2 := h2 a w h
    rw [show (#[x0, x1, x2] : Array Operand).map a.eval = #[tv p0 A0 (Tm.len l0) c0, .bool s1, .string s2] by rw [← e0, ← e1, ← e2]; simp]
    exact bCheck_any p0 l0 A0 c0 s1 s2 w.heap.size w ha0 (Nat.le_refl _)) hE
end
noncomputable def bAtom0Ops : Array Oper := ((Try.f35.body).bind (findReg 0)).getD #[]
noncomputable def bAtom1Ops : Array Oper := ((Try.f35.body).bind (findReg 1)).getD #[]
noncomputable def bAtom2Ops : Array Oper := ((Try.f35.body).bind (findReg 2)).getD #[]
noncomputable def bAtom3Ops : Array Oper := ((Try.f35.body).bind (findReg 3)).getD #[]
noncomputable def bAtom4Ops : Array Oper := ((Try.f35.body).bind (findReg 4)).getD #[]
theorem bAtom_body : Try.f35.body = some (.seq (.region 0 bAtom0Ops false) (.seq (.region 1 bAtom1Ops false) (.seq (.seq (.region 2 bAtom2Ops false) (.cond (.tmp 14) (.seq (.region 3 bAtom3Ops true) .ret) .skip)) (.seq (.region 4 bAtom4Ops false) .ret)))) := by kernel_rfl
theorem bAtom0a_region {Q : Exit → Act → World → Prop} (p0 : Pay) (l0 : Fo) (nb : Nat)  {w0 : World} {a : Act} {w : World} (hn : nb ≤ w0.heap.size) (h : Hold 19 [(0, .term p0 l0)] w0 a w)
    (hQ : ∀ r a' w', w0.heap.size ≤ r → Hold 19 [(1, .sat (nP 0 (some r) p0 l0)), (2, .val (.string ⟨#[]⟩)), (3, .sat (rC nb r zp .nil)), (990, .sat (gP nb (some r))), (4, .val (.bool false))] w0 a' w' → Q .normal a' w') : (Code.region 0 bAtom0Ops false).wp Try.prog Q a w := by
  refine region_seq (w0 := w) 4 (by kernel_rfl) ?_
  rw [show List.range 4 = [0, 1, 2, 3] from rfl]
  refine env_one (i := 0) (d := 1) (k := .ptrT p0 l0) (step_box (by kernel_rfl) (Opd.of_base 0 rfl) rfl) (by kernel_rfl) (by decide) h ?_
  clear h
  intro a w h
  refine env_one (i := 1) (d := 2) (k := .val (.string ⟨#[]⟩)) (step_assign (by kernel_rfl) (Opd.const _) rfl) (by kernel_rfl) (by decide) h ?_
  clear h
  intro a w h
  refine env_res (i := 2) (d := 3) (n := nb) (fun r => [(0, .sat (nT 0 (some r) p0 l0)), (1, .sat (nP 0 (some r) p0 l0)), (2, .val (.string ⟨#[]⟩))]) (by kernel_rfl) (by decide) (by decide) hn (fun r => (goes_cons 0 rfl (turns_term _ _ _) (goes_cons 1 rfl (turns_ptr _ _ _) (goes_cons 2 rfl (turns_val _ _) (goes_nil _ _))))) h ?_
  clear h
  intro r a w hr h
  refine env_one (i := 3) (d := 4) (k := .val (.bool false)) (step_assign (by kernel_rfl) (Opd.const _) rfl) (by kernel_rfl) (by decide) h ?_
  clear h
  intro a w h
  exact hQ r a w hr (h.keep [1, 2, 3, 990, 4])
theorem bAtom1a_region {Q : Exit → Act → World → Prop} (p0 : Pay) (l0 : Fo) (nb r : Nat)  {w0 : World} {a : Act} {w : World} (hr : w0.heap.size ≤ r) (h : Hold 19 [(1, .sat (nP 0 (some r) p0 l0)), (2, .val (.string ⟨#[]⟩)), (3, .sat (rC nb r zp .nil)), (990, .sat (gP nb (some r))), (4, .val (.bool false))] w0 a w)
    (hQ : ∀ a' w', Hold 19 [(1, .sat (nP 0 (some r) p0 l0)), (2, .val (.string ⟨#[]⟩)), (990, .sat (gP nb (some r))), (4, .val (.bool ((Bl.check p0 l0 ((p0.1) == 2) (⟨#[97, 116, 111, 109]⟩)).2))), (3, .sat (rC nb r (((Bl.check p0 l0 ((p0.1) == 2) (⟨#[97, 116, 111, 109]⟩)).1).1) (((Bl.check p0 l0 ((p0.1) == 2) (⟨#[97, 116, 111, 109]⟩)).1).2)))] w0 a' w' → Q .normal a' w') : (Code.region 1 bAtom1Ops false).wp Try.prog Q a w := by
  refine region_seq (w0 := w) 10 (by kernel_rfl) ?_
  rw [show List.range 10 = [0, 1, 2, 3, 4, 5, 6, 7, 8, 9] from rfl]
  refine env_one (i := 0) (d := 6) (k := .sat (nT 0 (some r) p0 l0)) (step_nload (by kernel_rfl) (Opd.of_base 1 rfl) rfl) (by kernel_rfl) (by decide) h ?_
  clear h
  intro a w h
  refine env_one (i := 1) (d := 7) (k := .ptrI (p0.1)) (step_field0 (by kernel_rfl) (Opd.ofP (Opd.of_base 1 rfl)) rfl) (by kernel_rfl) (by decide) h ?_
  clear h
  intro a w h
  refine env_one (i := 2) (d := 8) (k := .val (.int .i64 (p0.1))) (step_load_int3 (by kernel_rfl) (Opd.of_base 7 rfl) rfl) (by kernel_rfl) (by decide) h ?_
  clear h
  intro a w h
  refine env_one (i := 3) (d := 9) (k := .val (.bool ((p0.1) == 2))) (step_eqb_int (m := (p0.1)) (n := 2) (by kernel_rfl) (Opd.of_base 8 rfl) (Opd.const _) rfl rfl) (by kernel_rfl) (by decide) h ?_
  clear h
  intro a w h
  refine env_one (i := 4) (d := 10) (k := .sat (nT2 nb (some r) (((Bl.check p0 l0 ((p0.1) == 2) (⟨#[97, 116, 111, 109]⟩)).1).1) (((Bl.check p0 l0 ((p0.1) == 2) (⟨#[97, 116, 111, 109]⟩)).1).2) ((Bl.check p0 l0 ((p0.1) == 2) (⟨#[97, 116, 111, 109]⟩)).2))) (step_bCheck (g := 990) (by kernel_rfl) (Opd.ofT (Opd.of_base 6 rfl)) (Opd.of_base 9 rfl) (Opd.const _) (Opd.of_base 990 rfl) rfl) (by kernel_rfl) (by decide) h ?_
  clear h
  intro a w h
  refine env_one (i := 5) (d := 5) (k := .sat (nT2 nb (some r) (((Bl.check p0 l0 ((p0.1) == 2) (⟨#[97, 116, 111, 109]⟩)).1).1) (((Bl.check p0 l0 ((p0.1) == 2) (⟨#[97, 116, 111, 109]⟩)).1).2) ((Bl.check p0 l0 ((p0.1) == 2) (⟨#[97, 116, 111, 109]⟩)).2))) (step_move (by kernel_rfl) (Opd.of_base 10 rfl) rfl) (by kernel_rfl) (by decide) h ?_
  clear h
  intro a w h
  refine env_one (i := 6) (d := 11) (k := .sat (nT nb (some r) (((Bl.check p0 l0 ((p0.1) == 2) (⟨#[97, 116, 111, 109]⟩)).1).1) (((Bl.check p0 l0 ((p0.1) == 2) (⟨#[97, 116, 111, 109]⟩)).1).2))) (step_nT2_0 (by kernel_rfl) (Opd.of_base 5 rfl) rfl) (by kernel_rfl) (by decide) h ?_
  clear h
  intro a w h
  refine env_one (i := 7) (d := 12) (k := .val (.bool ((Bl.check p0 l0 ((p0.1) == 2) (⟨#[97, 116, 111, 109]⟩)).2))) (step_nT2_1 (by kernel_rfl) (Opd.of_base 5 rfl) rfl) (by kernel_rfl) (by decide) h ?_
  clear h
  intro a w h
  refine env_store (i := 8) (x := 3) (y := 11) (r := r) [(1, .sat (nP 0 (some r) p0 l0)), (2, .val (.string ⟨#[]⟩)), (990, .sat (gP nb (some r))), (4, .val (.bool false)), (6, .sat (nT 0 (some r) p0 l0)), (8, .val (.int .i64 (p0.1))), (9, .val (.bool ((p0.1) == 2))), (10, .sat (nT2 nb (some r) (((Bl.check p0 l0 ((p0.1) == 2) (⟨#[97, 116, 111, 109]⟩)).1).1) (((Bl.check p0 l0 ((p0.1) == 2) (⟨#[97, 116, 111, 109]⟩)).1).2) ((Bl.check p0 l0 ((p0.1) == 2) (⟨#[97, 116, 111, 109]⟩)).2))), (5, .sat (nT2 nb (some r) (((Bl.check p0 l0 ((p0.1) == 2) (⟨#[97, 116, 111, 109]⟩)).1).1) (((Bl.check p0 l0 ((p0.1) == 2) (⟨#[97, 116, 111, 109]⟩)).1).2) ((Bl.check p0 l0 ((p0.1) == 2) (⟨#[97, 116, 111, 109]⟩)).2))), (11, .sat (nT nb (some r) (((Bl.check p0 l0 ((p0.1) == 2) (⟨#[97, 116, 111, 109]⟩)).1).1) (((Bl.check p0 l0 ((p0.1) == 2) (⟨#[97, 116, 111, 109]⟩)).1).2))), (12, .val (.bool ((Bl.check p0 l0 ((p0.1) == 2) (⟨#[97, 116, 111, 109]⟩)).2)))] (by kernel_rfl) rfl rfl hr (stays_cons 1 rfl (away_nP _ _ _ _) (stays_cons 2 rfl (away_val _ _) (stays_cons 990 rfl (away_gP _ _ _) (stays_cons 4 rfl (away_val _ _) (stays_cons 6 rfl (away_nT _ _ _ _) (stays_cons 8 rfl (away_val _ _) (stays_cons 9 rfl (away_val _ _) (stays_cons 10 rfl (away_nT2 _ _ _ _ _) (stays_cons 5 rfl (away_nT2 _ _ _ _ _) (stays_cons 11 rfl (away_nT _ _ _ _) (stays_cons 12 rfl (away_val _ _) (stays_nil _ _)))))))))))) h ?_
  clear h
  intro a w h
  refine env_one (i := 9) (d := 4) (k := .val (.bool ((Bl.check p0 l0 ((p0.1) == 2) (⟨#[97, 116, 111, 109]⟩)).2))) (step_assign (by kernel_rfl) (Opd.of_base 12 rfl) rfl) (by kernel_rfl) (by decide) h ?_
  clear h
  intro a w h
  exact hQ a w (h.keep [1, 2, 990, 4, 3])
theorem bAtom2a_region {Q : Exit → Act → World → Prop} (p0 : Pay) (l0 : Fo) (nb r : Nat)  {w0 : World} {a : Act} {w : World} (hr : w0.heap.size ≤ r) (h : Hold 19 [(1, .sat (nP 0 (some r) p0 l0)), (2, .val (.string ⟨#[]⟩)), (990, .sat (gP nb (some r))), (4, .val (.bool true)), (3, .sat (rC nb r (((Bl.check p0 l0 ((p0.1) == 2) (⟨#[97, 116, 111, 109]⟩)).1).1) (((Bl.check p0 l0 ((p0.1) == 2) (⟨#[97, 116, 111, 109]⟩)).1).2)))] w0 a w)
    (hQ : ∀ a' w', Hold 19 [(1, .sat (nP 0 (some r) p0 l0)), (2, .val (.string ⟨#[]⟩)), (990, .sat (gP nb (some r))), (4, .val (.bool true)), (3, .sat (rC nb r (((Bl.check p0 l0 ((p0.1) == 2) (⟨#[97, 116, 111, 109]⟩)).1).1) (((Bl.check p0 l0 ((p0.1) == 2) (⟨#[97, 116, 111, 109]⟩)).1).2))), (14, .val (.bool false))] w0 a' w' → Q .normal a' w') : (Code.region 2 bAtom2Ops false).wp Try.prog Q a w := by
  refine region_seq (w0 := w) 2 (by kernel_rfl) ?_
  rw [show List.range 2 = [0, 1] from rfl]
  refine env_one (i := 0) (d := 13) (k := .val (.bool true)) (step_move (by kernel_rfl) (Opd.of_base 4 rfl) rfl) (by kernel_rfl) (by decide) h ?_
  clear h
  intro a w h
  refine env_one (i := 1) (d := 14) (k := .val (.bool false)) (step_not (by kernel_rfl) (Opd.of_base 13 rfl) rfl) (by kernel_rfl) (by decide) h ?_
  clear h
  intro a w h
  exact hQ a w (h.keep [1, 2, 990, 4, 3, 14])
theorem bAtom4a_region {Q : Exit → Act → World → Prop} (p0 : Pay) (l0 : Fo) (nb r : Nat)  {w0 : World} {a : Act} {w : World} (hr : w0.heap.size ≤ r) (h : Hold 19 [(1, .sat (nP 0 (some r) p0 l0)), (2, .val (.string ⟨#[]⟩)), (990, .sat (gP nb (some r))), (4, .val (.bool true)), (3, .sat (rC nb r (((Bl.check p0 l0 ((p0.1) == 2) (⟨#[97, 116, 111, 109]⟩)).1).1) (((Bl.check p0 l0 ((p0.1) == 2) (⟨#[97, 116, 111, 109]⟩)).1).2)))] w0 a w)
    (hQ : ∀ a' w', Hold 19 [(2, .val (.string (p0.2.2))), (990, .sat (gP nb (some r))), (4, .val (.bool true)), (3, .sat (rC nb r zp .nil))] w0 a' w' → Q .normal a' w') : (Code.region 4 bAtom4Ops false).wp Try.prog Q a w := by
  refine region_seq (w0 := w) 6 (by kernel_rfl) ?_
  rw [show List.range 6 = [0, 1, 2, 3, 4, 5] from rfl]
  refine env_one (i := 0) (d := 16) (k := .ptrS (p0.2.2)) (step_field2 (by kernel_rfl) (Opd.ofP (Opd.of_base 1 rfl)) rfl) (by kernel_rfl) (by decide) h ?_
  clear h
  intro a w h
  refine env_one (i := 1) (d := 17) (k := .val (.string (p0.2.2))) (step_load_string (by kernel_rfl) (Opd.of_base 16 rfl) rfl) (by kernel_rfl) (by decide) h ?_
  clear h
  intro a w h
  refine env_one (i := 2) (d := 18) (k := .sat (nT nb (some r) zp .nil)) (step_nzero (by kernel_rfl) rfl) (by kernel_rfl) (by decide) h ?_
  clear h
  intro a w h
  refine env_one (i := 3) (d := 2) (k := .val (.string (p0.2.2))) (step_assign (by kernel_rfl) (Opd.of_base 17 rfl) rfl) (by kernel_rfl) (by decide) h ?_
  clear h
  intro a w h
  refine env_store (i := 4) (x := 3) (y := 18) (r := r) [(1, .sat (nP 0 (some r) p0 l0)), (2, .val (.string (p0.2.2))), (990, .sat (gP nb (some r))), (4, .val (.bool true)), (17, .val (.string (p0.2.2))), (18, .sat (nT nb (some r) zp .nil))] (by kernel_rfl) rfl rfl hr (stays_cons 1 rfl (away_nP _ _ _ _) (stays_cons 2 rfl (away_val _ _) (stays_cons 990 rfl (away_gP _ _ _) (stays_cons 4 rfl (away_val _ _) (stays_cons 17 rfl (away_val _ _) (stays_cons 18 rfl (away_nT _ _ _ _) (stays_nil _ _))))))) h ?_
  clear h
  intro a w h
  refine env_one (i := 5) (d := 4) (k := .val (.bool true)) (step_assign (by kernel_rfl) (Opd.const _) rfl) (by kernel_rfl) (by decide) h ?_
  clear h
  intro a w h
  exact hQ a w (h.keep [2, 990, 4, 3])
theorem bAtom2b_region {Q : Exit → Act → World → Prop} (p0 : Pay) (l0 : Fo) (nb r : Nat)  {w0 : World} {a : Act} {w : World} (hr : w0.heap.size ≤ r) (h : Hold 19 [(1, .sat (nP 0 (some r) p0 l0)), (2, .val (.string ⟨#[]⟩)), (990, .sat (gP nb (some r))), (4, .val (.bool false)), (3, .sat (rC nb r (((Bl.check p0 l0 ((p0.1) == 2) (⟨#[97, 116, 111, 109]⟩)).1).1) (((Bl.check p0 l0 ((p0.1) == 2) (⟨#[97, 116, 111, 109]⟩)).1).2)))] w0 a w)
    (hQ : ∀ a' w', Hold 19 [(1, .sat (nP 0 (some r) p0 l0)), (2, .val (.string ⟨#[]⟩)), (990, .sat (gP nb (some r))), (4, .val (.bool false)), (3, .sat (rC nb r (((Bl.check p0 l0 ((p0.1) == 2) (⟨#[97, 116, 111, 109]⟩)).1).1) (((Bl.check p0 l0 ((p0.1) == 2) (⟨#[97, 116, 111, 109]⟩)).1).2))), (14, .val (.bool true))] w0 a' w' → Q .normal a' w') : (Code.region 2 bAtom2Ops false).wp Try.prog Q a w := by
  refine region_seq (w0 := w) 2 (by kernel_rfl) ?_
  rw [show List.range 2 = [0, 1] from rfl]
  refine env_one (i := 0) (d := 13) (k := .val (.bool false)) (step_move (by kernel_rfl) (Opd.of_base 4 rfl) rfl) (by kernel_rfl) (by decide) h ?_
  clear h
  intro a w h
  refine env_one (i := 1) (d := 14) (k := .val (.bool true)) (step_not (by kernel_rfl) (Opd.of_base 13 rfl) rfl) (by kernel_rfl) (by decide) h ?_
  clear h
  intro a w h
  exact hQ a w (h.keep [1, 2, 990, 4, 3, 14])
def bAtom3aEs (p0 : Pay) (l0 : Fo) (nb r : Nat) : List Kd := [
  .sat (nT nb (some r) (((Bl.check p0 l0 ((p0.1) == 2) (⟨#[97, 116, 111, 109]⟩)).1).1) (((Bl.check p0 l0 ((p0.1) == 2) (⟨#[97, 116, 111, 109]⟩)).1).2)),
  .val (.string ⟨#[]⟩)]
def bAtom3aDs : List Nat := [15, 2]
def bAtom3aEnv (p0 : Pay) (l0 : Fo) (nb r : Nat) : Env := [(1, .sat (nP 0 (some r) p0 l0)), (990, .sat (gP nb (some r))), (4, .val (.bool false)), (3, .sat (rC nb r (((Bl.check p0 l0 ((p0.1) == 2) (⟨#[97, 116, 111, 109]⟩)).1).1) (((Bl.check p0 l0 ((p0.1) == 2) (⟨#[97, 116, 111, 109]⟩)).1).2)))]
theorem bAtom3a_0 {Q : Exit → Act → World → Prop} (p0 : Pay) (l0 : Fo) (nb r : Nat)  : RStep (strip bAtom3Ops) Q (fun i => ((bAtom3aEs p0 l0 nb r)[i]?).getD .any) (fun i => (bAtom3aDs[i]?).getD (1000 + i)) (look (bAtom3aEnv p0 l0 nb r)) 19 0 := fun _ => step_cload (by kernel_rfl) (Opd.of_base 3 rfl) rfl
theorem bAtom3a_1 {Q : Exit → Act → World → Prop} (p0 : Pay) (l0 : Fo) (nb r : Nat)  : RStep (strip bAtom3Ops) Q (fun i => ((bAtom3aEs p0 l0 nb r)[i]?).getD .any) (fun i => (bAtom3aDs[i]?).getD (1000 + i)) (look (bAtom3aEnv p0 l0 nb r)) 19 1 := fun _ => step_assign (by kernel_rfl) (Opd.const _) rfl
theorem bAtom3a_region {Q : Exit → Act → World → Prop} (p0 : Pay) (l0 : Fo) (nb r : Nat)  {w0 : World} {a : Act} {w : World} (hr : w0.heap.size ≤ r) (h : Hold 19 [(1, .sat (nP 0 (some r) p0 l0)), (990, .sat (gP nb (some r))), (4, .val (.bool false)), (3, .sat (rC nb r (((Bl.check p0 l0 ((p0.1) == 2) (⟨#[97, 116, 111, 109]⟩)).1).1) (((Bl.check p0 l0 ((p0.1) == 2) (⟨#[97, 116, 111, 109]⟩)).1).2)))] w0 a w)
    (hQ : ∀ a' w', Hold 19 [(1, .sat (nP 0 (some r) p0 l0)), (990, .sat (gP nb (some r))), (4, .val (.bool false)), (2, .val (.string ⟨#[]⟩)), (3, .sat (rC nb r (((Bl.check p0 l0 ((p0.1) == 2) (⟨#[97, 116, 111, 109]⟩)).1).1) (((Bl.check p0 l0 ((p0.1) == 2) (⟨#[97, 116, 111, 109]⟩)).1).2)))] w0 a' w' → Q .normal a' w') : (Code.region 3 bAtom3Ops true).wp Try.prog Q a w := by
  have hall : ∀ i, i < 0 → RStep (strip bAtom3Ops) Q (fun i => ((bAtom3aEs p0 l0 nb r)[i]?).getD .any) (fun i => (bAtom3aDs[i]?).getD (1000 + i)) (look (bAtom3aEnv p0 l0 nb r)) 19 i := fun i hi => absurd hi (by omega)
  have hall := below_succ hall (bAtom3a_0 p0 l0 nb r )
  have hall := below_succ hall (bAtom3a_1 p0 l0 nb r )
  refine env_then (m := 2) (n := 4) bAtom3aDs (bAtom3aEs p0 l0 nb r) rfl (by kernel_rfl) (by decide) (by kernel_rfl) (of_decide_eq_true (by kernel_rfl)) (by kernel_rfl) (by kernel_rfl) (fun i_ hi_ => hall i_ hi_) h fun a w h => ?_
  clear hall
  have h := h.keep [1, 990, 4, 3, 15, 2]
  show wpOps Try.prog _ Q [2, 3] a w
  refine env_store (i := 2) (x := 3) (y := 15) (r := r) [(1, .sat (nP 0 (some r) p0 l0)), (990, .sat (gP nb (some r))), (4, .val (.bool false)), (15, .sat (nT nb (some r) (((Bl.check p0 l0 ((p0.1) == 2) (⟨#[97, 116, 111, 109]⟩)).1).1) (((Bl.check p0 l0 ((p0.1) == 2) (⟨#[97, 116, 111, 109]⟩)).1).2))), (2, .val (.string ⟨#[]⟩))] (by kernel_rfl) rfl rfl hr (stays_cons 1 rfl (away_nP _ _ _ _) (stays_cons 990 rfl (away_gP _ _ _) (stays_cons 4 rfl (away_val _ _) (stays_cons 15 rfl (away_nT _ _ _ _) (stays_cons 2 rfl (away_val _ _) (stays_nil _ _)))))) h ?_
  clear h
  intro a w h
  refine env_one (i := 3) (d := 4) (k := .val (.bool false)) (step_assign (by kernel_rfl) (Opd.const _) rfl) (by kernel_rfl) (by decide) h ?_
  clear h
  intro a w h
  exact hQ a w (h.keep [1, 990, 4, 2, 3])
set_option maxHeartbeats 1000000 in
theorem bAtom_any (p0 : Pay) (l0 : Fo) (A0 : Option Addr) (c0 : Nat) (B : Nat) (w : World) (hA0 : ArgsB w B A0 (Tm.len l0) l0) (hB : B ≤ w.heap.size)  : Calls Try.prog 35 #[tv p0 A0 (Tm.len l0) c0] w (MkXB w.heap.size (.string (Bl.atom p0 l0).1) ((Bl.atom p0 l0).2.1).1 ((Bl.atom p0 l0).2.1).2 ((Bl.atom p0 l0).2.2) w) := by
  refine calls_of_wp Try.func35 bAtom_body ?_
  obtain ⟨v0, hv0⟩ : ∃ v : Value, v = tv p0 A0 (Tm.len l0) c0 := ⟨_, rfl⟩
  rw [← hv0]
  have hk0 : (Kd.term p0 l0).R v0 w := by rw [hv0]; exact ⟨A0, c0, rfl, hA0.up hB⟩
  have hsN : (#[v0] ++ Array.replicate (Try.f35.ntmps - #[v0].size) undef : Array Value).size = 19 := by kernel_rfl
  have gs0 : (#[v0] ++ Array.replicate (Try.f35.ntmps - #[v0].size) undef : Array Value).getD 0 undef = v0 := by kernel_rfl
  generalize (#[v0] ++ Array.replicate (Try.f35.ntmps - #[v0].size) undef : Array Value) = tm at hsN gs0 ⊢
  obtain ⟨a, ha0⟩ : ∃ a : Act, a = ⟨tm, []⟩ := ⟨_, rfl⟩
  have h : Hold 19 [(0, .term p0 l0)] w ⟨tm, []⟩ w := ⟨hsN, rfl, Below.refl _ _, (slots_cons 0 (by rw [gs0]; exact hk0) slots_nil)⟩
  obtain ⟨nb, hnb⟩ : ∃ nb, nb = w.heap.size := ⟨_, rfl⟩
  have hn : nb ≤ w.heap.size := by omega
  refine wp_seq ?_
  refine bAtom0a_region p0 l0 nb  hn h ?_
  intro r a w1 hr h
  show Code.wp _ _ _ a w1
  refine wp_seq ?_
  refine bAtom1a_region p0 l0 nb r  hr h ?_
  intro a w1 h
  show Code.wp _ _ _ a w1
  refine wp_seq ?_
  refine wp_seq ?_
  rcases Bool.eq_false_or_eq_true ((Bl.check p0 l0 ((p0.1) == 2) (⟨#[97, 116, 111, 109]⟩)).2) with hc | hc
  · rw [hc] at h
    refine bAtom2a_region p0 l0 nb r  hr h ?_
    intro a w1 h
    show Code.wp _ _ _ a w1
    refine env_cond (b := false) rfl h ?_
    refine wp_skip ?_
    have h := h.keep [1, 2, 990, 4, 3]
    show Code.wp _ _ _ a w1
    refine wp_seq ?_
    refine bAtom4a_region p0 l0 nb r  hr h ?_
    intro a w1 h
    show Code.wp _ _ _ a w1
    have ev : Bl.atom p0 l0 = ((p0.2.2), ((zp, .nil), true)) := by simp [Bl.atom, hc]
    rw [ev]
    refine wp_ret ?_
    (try simp only [then_ret, block_ret])
    exact law_xcb rfl (h.get 2 rfl) (h.get 4 rfl) (h.get 3 rfl) h.defers fun A c ha => ⟨A, c, rfl, ha.mono fun b hb => ⟨by have := hb.1; omega, hb.2.1⟩, h.world⟩
  · rw [hc] at h
    refine bAtom2b_region p0 l0 nb r  hr h ?_
    intro a w1 h
    show Code.wp _ _ _ a w1
    refine env_cond (b := true) rfl h ?_
    have h := h.keep [1, 2, 990, 4, 3]
    show Code.wp _ _ _ a w1
    refine wp_seq ?_
    have h := h.keep [1, 990, 4, 3]
    refine bAtom3a_region p0 l0 nb r  hr h ?_
    intro a w1 h
    show Code.wp _ _ _ a w1
    have ev : Bl.atom p0 l0 = (⟨#[]⟩, ((((Bl.check p0 l0 ((p0.1) == 2) (⟨#[97, 116, 111, 109]⟩)).1).1, ((Bl.check p0 l0 ((p0.1) == 2) (⟨#[97, 116, 111, 109]⟩)).1).2), false)) := by simp [Bl.atom, hc]
    rw [ev]
    refine wp_ret ?_
    (try simp only [then_ret, block_ret])
    exact law_xcb rfl (h.get 2 rfl) (h.get 4 rfl) (h.get 3 rfl) h.defers fun A c ha => ⟨A, c, rfl, ha.mono fun b hb => ⟨by have := hb.1; omega, hb.2.1⟩, h.world⟩
section
variable {ops : Array Oper} {Q : Exit → Act → World → Prop} {E : Nat → Kd} {D : Nat → Nat} {base : Nat → Option Kd} {N : Nat}
theorem step_bAtom {i : Nat} {n g : Nat} {G : Option Nat} {x0 : Operand} {p0 : Pay} {l0 : Fo} (hop : (ops[i]?).map (·.op) = some (.call { callee := .value (.func 35), args := #[x0], argTypes := #[24] })) (h0 : Opd ops E D base N i x0 (.term p0 l0)) (hg : Opd ops E D base N i (.tmp g) (.sat (gP n G))) (hE : E i = .sat (nT3 n G (.string (Bl.atom p0 l0).1) ((Bl.atom p0 l0).2.1).1 ((Bl.atom p0 l0).2.1).2 ((Bl.atom p0 l0).2.2))) : Step Try.prog ops Q E D base N i :=
  step_mkXB hop (fun _ _ => by kernel_rfl) hg (fun a w h => by
    obtain ⟨A0, c0, e0, ha0⟩ := h0 a w h
    rw [show (#[x0] : Array Operand).map a.eval = #[tv p0 A0 (Tm.len l0) c0] by rw [← e0]; simp]
    exact bAtom_any p0 l0 A0 c0 w.heap.size w ha0 (Nat.le_refl _)) hE
end
noncomputable def bInt0Ops : Array Oper := ((Try.f37.body).bind (findReg 0)).getD #[]
noncomputable def bInt1Ops : Array Oper := ((Try.f37.body).bind (findReg 1)).getD #[]
noncomputable def bInt2Ops : Array Oper := ((Try.f37.body).bind (findReg 2)).getD #[]
noncomputable def bInt3Ops : Array Oper := ((Try.f37.body).bind (findReg 3)).getD #[]
noncomputable def bInt4Ops : Array Oper := ((Try.f37.body).bind (findReg 4)).getD #[]
theorem bInt_body : Try.f37.body = some (.seq (.region 0 bInt0Ops false) (.seq (.region 1 bInt1Ops false) (.seq (.seq (.region 2 bInt2Ops false) (.cond (.tmp 14) (.seq (.region 3 bInt3Ops true) .ret) .skip)) (.seq (.region 4 bInt4Ops false) .ret)))) := by kernel_rfl
theorem bInt0a_region {Q : Exit → Act → World → Prop} (p0 : Pay) (l0 : Fo) (nb : Nat)  {w0 : World} {a : Act} {w : World} (hn : nb ≤ w0.heap.size) (h : Hold 19 [(0, .term p0 l0)] w0 a w)
    (hQ : ∀ r a' w', w0.heap.size ≤ r → Hold 19 [(1, .sat (nP 0 (some r) p0 l0)), (2, .val (.int .i64 0)), (3, .sat (rC nb r zp .nil)), (990, .sat (gP nb (some r))), (4, .val (.bool false))] w0 a' w' → Q .normal a' w') : (Code.region 0 bInt0Ops false).wp Try.prog Q a w := by
  refine region_seq (w0 := w) 4 (by kernel_rfl) ?_
  rw [show List.range 4 = [0, 1, 2, 3] from rfl]
  refine env_one (i := 0) (d := 1) (k := .ptrT p0 l0) (step_box (by kernel_rfl) (Opd.of_base 0 rfl) rfl) (by kernel_rfl) (by decide) h ?_
  clear h
  intro a w h
  refine env_one (i := 1) (d := 2) (k := .val (.int .i64 0)) (step_assign (by kernel_rfl) (Opd.const _) rfl) (by kernel_rfl) (by decide) h ?_
  clear h
  intro a w h
  refine env_res (i := 2) (d := 3) (n := nb) (fun r => [(0, .sat (nT 0 (some r) p0 l0)), (1, .sat (nP 0 (some r) p0 l0)), (2, .val (.int .i64 0))]) (by kernel_rfl) (by decide) (by decide) hn (fun r => (goes_cons 0 rfl (turns_term _ _ _) (goes_cons 1 rfl (turns_ptr _ _ _) (goes_cons 2 rfl (turns_val _ _) (goes_nil _ _))))) h ?_
  clear h
  intro r a w hr h
  refine env_one (i := 3) (d := 4) (k := .val (.bool false)) (step_assign (by kernel_rfl) (Opd.const _) rfl) (by kernel_rfl) (by decide) h ?_
  clear h
  intro a w h
  exact hQ r a w hr (h.keep [1, 2, 3, 990, 4])
theorem bInt1a_region {Q : Exit → Act → World → Prop} (p0 : Pay) (l0 : Fo) (nb r : Nat)  {w0 : World} {a : Act} {w : World} (hr : w0.heap.size ≤ r) (h : Hold 19 [(1, .sat (nP 0 (some r) p0 l0)), (2, .val (.int .i64 0)), (3, .sat (rC nb r zp .nil)), (990, .sat (gP nb (some r))), (4, .val (.bool false))] w0 a w)
    (hQ : ∀ a' w', Hold 19 [(1, .sat (nP 0 (some r) p0 l0)), (2, .val (.int .i64 0)), (990, .sat (gP nb (some r))), (4, .val (.bool ((Bl.check p0 l0 ((p0.1) == 1) (⟨#[105, 110, 116, 101, 103, 101, 114]⟩)).2))), (3, .sat (rC nb r (((Bl.check p0 l0 ((p0.1) == 1) (⟨#[105, 110, 116, 101, 103, 101, 114]⟩)).1).1) (((Bl.check p0 l0 ((p0.1) == 1) (⟨#[105, 110, 116, 101, 103, 101, 114]⟩)).1).2)))] w0 a' w' → Q .normal a' w') : (Code.region 1 bInt1Ops false).wp Try.prog Q a w := by
  refine region_seq (w0 := w) 10 (by kernel_rfl) ?_
  rw [show List.range 10 = [0, 1, 2, 3, 4, 5, 6, 7, 8, 9] from rfl]
  refine env_one (i := 0) (d := 6) (k := .sat (nT 0 (some r) p0 l0)) (step_nload (by kernel_rfl) (Opd.of_base 1 rfl) rfl) (by kernel_rfl) (by decide) h ?_
  clear h
  intro a w h
  refine env_one (i := 1) (d := 7) (k := .ptrI (p0.1)) (step_field0 (by kernel_rfl) (Opd.ofP (Opd.of_base 1 rfl)) rfl) (by kernel_rfl) (by decide) h ?_
  clear h
  intro a w h
  refine env_one (i := 2) (d := 8) (k := .val (.int .i64 (p0.1))) (step_load_int3 (by kernel_rfl) (Opd.of_base 7 rfl) rfl) (by kernel_rfl) (by decide) h ?_
  clear h
  intro a w h
  refine env_one (i := 3) (d := 9) (k := .val (.bool ((p0.1) == 1))) (step_eqb_int (m := (p0.1)) (n := 1) (by kernel_rfl) (Opd.of_base 8 rfl) (Opd.const _) rfl rfl) (by kernel_rfl) (by decide) h ?_
  clear h
  intro a w h
  refine env_one (i := 4) (d := 10) (k := .sat (nT2 nb (some r) (((Bl.check p0 l0 ((p0.1) == 1) (⟨#[105, 110, 116, 101, 103, 101, 114]⟩)).1).1) (((Bl.check p0 l0 ((p0.1) == 1) (⟨#[105, 110, 116, 101, 103, 101, 114]⟩)).1).2) ((Bl.check p0 l0 ((p0.1) == 1) (⟨#[105, 110, 116, 101, 103, 101, 114]⟩)).2))) (step_bCheck (g := 990) (by kernel_rfl) (Opd.ofT (Opd.of_base 6 rfl)) (Opd.of_base 9 rfl) (Opd.const _) (Opd.of_base 990 rfl) rfl) (by kernel_rfl) (by decide) h ?_
  clear h
  intro a w h
  refine env_one (i := 5) (d := 5) (k := .sat (nT2 nb (some r) (((Bl.check p0 l0 ((p0.1) == 1) (⟨#[105, 110, 116, 101, 103, 101, 114]⟩)).1).1) (((Bl.check p0 l0 ((p0.1) == 1) (⟨#[105, 110, 116, 101, 103, 101, 114]⟩)).1).2) ((Bl.check p0 l0 ((p0.1) == 1) (⟨#[105, 110, 116, 101, 103, 101, 114]⟩)).2))) (step_move (by kernel_rfl) (Opd.of_base 10 rfl) rfl) (by kernel_rfl) (by decide) h ?_
  clear h
  intro a w h
  refine env_one (i := 6) (d := 11) (k := .sat (nT nb (some r) (((Bl.check p0 l0 ((p0.1) == 1) (⟨#[105, 110, 116, 101, 103, 101, 114]⟩)).1).1) (((Bl.check p0 l0 ((p0.1) == 1) (⟨#[105, 110, 116, 101, 103, 101, 114]⟩)).1).2))) (step_nT2_0 (by kernel_rfl) (Opd.of_base 5 rfl) rfl) (by kernel_rfl) (by decide) h ?_
  clear h
  intro a w h
  refine env_one (i := 7) (d := 12) (k := .val (.bool ((Bl.check p0 l0 ((p0.1) == 1) (⟨#[105, 110, 116, 101, 103, 101, 114]⟩)).2))) (step_nT2_1 (by kernel_rfl) (Opd.of_base 5 rfl) rfl) (by kernel_rfl) (by decide) h ?_
  clear h
  intro a w h
  refine env_store (i := 8) (x := 3) (y := 11) (r := r) [(1, .sat (nP 0 (some r) p0 l0)), (2, .val (.int .i64 0)), (990, .sat (gP nb (some r))), (4, .val (.bool false)), (6, .sat (nT 0 (some r) p0 l0)), (8, .val (.int .i64 (p0.1))), (9, .val (.bool ((p0.1) == 1))), (10, .sat (nT2 nb (some r) (((Bl.check p0 l0 ((p0.1) == 1) (⟨#[105, 110, 116, 101, 103, 101, 114]⟩)).1).1) (((Bl.check p0 l0 ((p0.1) == 1) (⟨#[105, 110, 116, 101, 103, 101, 114]⟩)).1).2) ((Bl.check p0 l0 ((p0.1) == 1) (⟨#[105, 110, 116, 101, 103, 101, 114]⟩)).2))), (5, .sat (nT2 nb (some r) (((Bl.check p0 l0 ((p0.1) == 1) (⟨#[105, 110, 116, 101, 103, 101, 114]⟩)).1).1) (((Bl.check p0 l0 ((p0.1) == 1) (⟨#[105, 110, 116, 101, 103, 101, 114]⟩)).1).2) ((Bl.check p0 l0 ((p0.1) == 1) (⟨#[105, 110, 116, 101, 103, 101, 114]⟩)).2))), (11, .sat (nT nb (some r) (((Bl.check p0 l0 ((p0.1) == 1) (⟨#[105, 110, 116, 101, 103, 101, 114]⟩)).1).1) (((Bl.check p0 l0 ((p0.1) == 1) (⟨#[105, 110, 116, 101, 103, 101, 114]⟩)).1).2))), (12, .val (.bool ((Bl.check p0 l0 ((p0.1) == 1) (⟨#[105, 110, 116, 101, 103, 101, 114]⟩)).2)))] (by kernel_rfl) rfl rfl hr (stays_cons 1 rfl (away_nP _ _ _ _) (stays_cons 2 rfl (away_val _ _) (stays_cons 990 rfl (away_gP _ _ _) (stays_cons 4 rfl (away_val _ _) (stays_cons 6 rfl (away_nT _ _ _ _) (stays_cons 8 rfl (away_val _ _) (stays_cons 9 rfl (away_val _ _) (stays_cons 10 rfl (away_nT2 _ _ _ _ _) (stays_cons 5 rfl (away_nT2 _ _ _ _ _) (stays_cons 11 rfl (away_nT _ _ _ _) (stays_cons 12 rfl (away_val _ _) (stays_nil _ _)))))))))))) h ?_
  clear h
  intro a w h
  refine env_one (i := 9) (d := 4) (k := .val (.bool ((Bl.check p0 l0 ((p0.1) == 1) (⟨#[105, 110, 116, 101, 103, 101, 114]⟩)).2))) (step_assign (by kernel_rfl) (Opd.of_base 12 rfl) rfl) (by kernel_rfl) (by decide) h ?_
  clear h
  intro a w h
  exact hQ a w (h.keep [1, 2, 990, 4, 3])
theorem bInt2a_region {Q : Exit → Act → World → Prop} (p0 : Pay) (l0 : Fo) (nb r : Nat)  {w0 : World} {a : Act} {w : World} (hr : w0.heap.size ≤ r) (h : Hold 19 [(1, .sat (nP 0 (some r) p0 l0)), (2, .val (.int .i64 0)), (990, .sat (gP nb (some r))), (4, .val (.bool true)), (3, .sat (rC nb r (((Bl.check p0 l0 ((p0.1) == 1) (⟨#[105, 110, 116, 101, 103, 101, 114]⟩)).1).1) (((Bl.check p0 l0 ((p0.1) == 1) (⟨#[105, 110, 116, 101, 103, 101, 114]⟩)).1).2)))] w0 a w)
    (hQ : ∀ a' w', Hold 19 [(1, .sat (nP 0 (some r) p0 l0)), (2, .val (.int .i64 0)), (990, .sat (gP nb (some r))), (4, .val (.bool true)), (3, .sat (rC nb r (((Bl.check p0 l0 ((p0.1) == 1) (⟨#[105, 110, 116, 101, 103, 101, 114]⟩)).1).1) (((Bl.check p0 l0 ((p0.1) == 1) (⟨#[105, 110, 116, 101, 103, 101, 114]⟩)).1).2))), (14, .val (.bool false))] w0 a' w' → Q .normal a' w') : (Code.region 2 bInt2Ops false).wp Try.prog Q a w := by
  refine region_seq (w0 := w) 2 (by kernel_rfl) ?_
  rw [show List.range 2 = [0, 1] from rfl]
  refine env_one (i := 0) (d := 13) (k := .val (.bool true)) (step_move (by kernel_rfl) (Opd.of_base 4 rfl) rfl) (by kernel_rfl) (by decide) h ?_
  clear h
  intro a w h
  refine env_one (i := 1) (d := 14) (k := .val (.bool false)) (step_not (by kernel_rfl) (Opd.of_base 13 rfl) rfl) (by kernel_rfl) (by decide) h ?_
  clear h
  intro a w h
  exact hQ a w (h.keep [1, 2, 990, 4, 3, 14])
theorem bInt4a_region {Q : Exit → Act → World → Prop} (p0 : Pay) (l0 : Fo) (nb r : Nat)  {w0 : World} {a : Act} {w : World} (hr : w0.heap.size ≤ r) (h : Hold 19 [(1, .sat (nP 0 (some r) p0 l0)), (2, .val (.int .i64 0)), (990, .sat (gP nb (some r))), (4, .val (.bool true)), (3, .sat (rC nb r (((Bl.check p0 l0 ((p0.1) == 1) (⟨#[105, 110, 116, 101, 103, 101, 114]⟩)).1).1) (((Bl.check p0 l0 ((p0.1) == 1) (⟨#[105, 110, 116, 101, 103, 101, 114]⟩)).1).2)))] w0 a w)
    (hQ : ∀ a' w', Hold 19 [(2, .val (.int .i64 (p0.2.1))), (990, .sat (gP nb (some r))), (4, .val (.bool true)), (3, .sat (rC nb r zp .nil))] w0 a' w' → Q .normal a' w') : (Code.region 4 bInt4Ops false).wp Try.prog Q a w := by
  refine region_seq (w0 := w) 6 (by kernel_rfl) ?_
  rw [show List.range 6 = [0, 1, 2, 3, 4, 5] from rfl]
  refine env_one (i := 0) (d := 16) (k := .ptrI (p0.2.1)) (step_field1 (by kernel_rfl) (Opd.ofP (Opd.of_base 1 rfl)) rfl) (by kernel_rfl) (by decide) h ?_
  clear h
  intro a w h
  refine env_one (i := 1) (d := 17) (k := .val (.int .i64 (p0.2.1))) (step_load_int (by kernel_rfl) (Opd.of_base 16 rfl) rfl) (by kernel_rfl) (by decide) h ?_
  clear h
  intro a w h
  refine env_one (i := 2) (d := 18) (k := .sat (nT nb (some r) zp .nil)) (step_nzero (by kernel_rfl) rfl) (by kernel_rfl) (by decide) h ?_
  clear h
  intro a w h
  refine env_one (i := 3) (d := 2) (k := .val (.int .i64 (p0.2.1))) (step_assign (by kernel_rfl) (Opd.of_base 17 rfl) rfl) (by kernel_rfl) (by decide) h ?_
  clear h
  intro a w h
  refine env_store (i := 4) (x := 3) (y := 18) (r := r) [(1, .sat (nP 0 (some r) p0 l0)), (2, .val (.int .i64 (p0.2.1))), (990, .sat (gP nb (some r))), (4, .val (.bool true)), (17, .val (.int .i64 (p0.2.1))), (18, .sat (nT nb (some r) zp .nil))] (by kernel_rfl) rfl rfl hr (stays_cons 1 rfl (away_nP _ _ _ _) (stays_cons 2 rfl (away_val _ _) (stays_cons 990 rfl (away_gP _ _ _) (stays_cons 4 rfl (away_val _ _) (stays_cons 17 rfl (away_val _ _) (stays_cons 18 rfl (away_nT _ _ _ _) (stays_nil _ _))))))) h ?_
  clear h
  intro a w h
  refine env_one (i := 5) (d := 4) (k := .val (.bool true)) (step_assign (by kernel_rfl) (Opd.const _) rfl) (by kernel_rfl) (by decide) h ?_
  clear h
  intro a w h
  exact hQ a w (h.keep [2, 990, 4, 3])
theorem bInt2b_region {Q : Exit → Act → World → Prop} (p0 : Pay) (l0 : Fo) (nb r : Nat)  {w0 : World} {a : Act} {w : World} (hr : w0.heap.size ≤ r) (h : Hold 19 [(1, .sat (nP 0 (some r) p0 l0)), (2, .val (.int .i64 0)), (990, .sat (gP nb (some r))), (4, .val (.bool false)), (3, .sat (rC nb r (((Bl.check p0 l0 ((p0.1) == 1) (⟨#[105, 110, 116, 101, 103, 101, 114]⟩)).1).1) (((Bl.check p0 l0 ((p0.1) == 1) (⟨#[105, 110, 116, 101, 103, 101, 114]⟩)).1).2)))] w0 a w)
    (hQ : ∀ a' w', Hold 19 [(1, .sat (nP 0 (some r) p0 l0)), (2, .val (.int .i64 0)), (990, .sat (gP nb (some r))), (4, .val (.bool false)), (3, .sat (rC nb r (((Bl.check p0 l0 ((p0.1) == 1) (⟨#[105, 110, 116, 101, 103, 101, 114]⟩)).1).1) (((Bl.check p0 l0 ((p0.1) == 1) (⟨#[105, 110, 116, 101, 103, 101, 114]⟩)).1).2))), (14, .val (.bool true))] w0 a' w' → Q .normal a' w') : (Code.region 2 bInt2Ops false).wp Try.prog Q a w := by
  refine region_seq (w0 := w) 2 (by kernel_rfl) ?_
  rw [show List.range 2 = [0, 1] from rfl]
  refine env_one (i := 0) (d := 13) (k := .val (.bool false)) (step_move (by kernel_rfl) (Opd.of_base 4 rfl) rfl) (by kernel_rfl) (by decide) h ?_
  clear h
  intro a w h
  refine env_one (i := 1) (d := 14) (k := .val (.bool true)) (step_not (by kernel_rfl) (Opd.of_base 13 rfl) rfl) (by kernel_rfl) (by decide) h ?_
  clear h
  intro a w h
  exact hQ a w (h.keep [1, 2, 990, 4, 3, 14])
def bInt3aEs (p0 : Pay) (l0 : Fo) (nb r : Nat) : List Kd := [
  .sat (nT nb (some r) (((Bl.check p0 l0 ((p0.1) == 1) (⟨#[105, 110, 116, 101, 103, 101, 114]⟩)).1).1) (((Bl.check p0 l0 ((p0.1) == 1) (⟨#[105, 110, 116, 101, 103, 101, 114]⟩)).1).2)),
  .val (.int .i64 0)]
def bInt3aDs : List Nat := [15, 2]
def bInt3aEnv (p0 : Pay) (l0 : Fo) (nb r : Nat) : Env := [(1, .sat (nP 0 (some r) p0 l0)), (990, .sat (gP nb (some r))), (4, .val (.bool false)), (3, .sat (rC nb r (((Bl.check p0 l0 ((p0.1) == 1) (⟨#[105, 110, 116, 101, 103, 101, 114]⟩)).1).1) (((Bl.check p0 l0 ((p0.1) == 1) (⟨#[105, 110, 116, 101, 103, 101, 114]⟩)).1).2)))]
theorem bInt3a_0 {Q : Exit → Act → World → Prop} (p0 : Pay) (l0 : Fo) (nb r : Nat)  : RStep (strip bInt3Ops) Q (fun i => ((bInt3aEs p0 l0 nb r)[i]?).getD .any) (fun i => (bInt3aDs[i]?).getD (1000 + i)) (look (bInt3aEnv p0 l0 nb r)) 19 0 := fun _ => step_cload (by kernel_rfl) (Opd.of_base 3 rfl) rfl
theorem bInt3a_1 {Q : Exit → Act → World → Prop} (p0 : Pay) (l0 : Fo) (nb r : Nat)  : RStep (strip bInt3Ops) Q (fun i => ((bInt3aEs p0 l0 nb r)[i]?).getD .any) (fun i => (bInt3aDs[i]?).getD (1000 + i)) (look (bInt3aEnv p0 l0 nb r)) 19 1 := fun _ => step_assign (by kernel_rfl) (Opd.const _) rfl
theorem bInt3a_region {Q : Exit → Act → World → Prop} (p0 : Pay) (l0 : Fo) (nb r : Nat)  {w0 : World} {a : Act} {w : World} (hr : w0.heap.size ≤ r) (h : Hold 19 [(1, .sat (nP 0 (some r) p0 l0)), (990, .sat (gP nb (some r))), (4, .val (.bool false)), (3, .sat (rC nb r (((Bl.check p0 l0 ((p0.1) == 1) (⟨#[105, 110, 116, 101, 103, 101, 114]⟩)).1).1) (((Bl.check p0 l0 ((p0.1) == 1) (⟨#[105, 110, 116, 101, 103, 101, 114]⟩)).1).2)))] w0 a w)
    (hQ : ∀ a' w', Hold 19 [(1, .sat (nP 0 (some r) p0 l0)), (990, .sat (gP nb (some r))), (4, .val (.bool false)), (2, .val (.int .i64 0)), (3, .sat (rC nb r (((Bl.check p0 l0 ((p0.1) == 1) (⟨#[105, 110, 116, 101, 103, 101, 114]⟩)).1).1) (((Bl.check p0 l0 ((p0.1) == 1) (⟨#[105, 110, 116, 101, 103, 101, 114]⟩)).1).2)))] w0 a' w' → Q .normal a' w') : (Code.region 3 bInt3Ops true).wp Try.prog Q a w := by
  have hall : ∀ i, i < 0 → RStep (strip bInt3Ops) Q (fun i => ((bInt3aEs p0 l0 nb r)[i]?).getD .any) (fun i => (bInt3aDs[i]?).getD (1000 + i)) (look (bInt3aEnv p0 l0 nb r)) 19 i := fun i hi => absurd hi (by omega)
  have hall := below_succ hall (bInt3a_0 p0 l0 nb r )
  have hall := below_succ hall (bInt3a_1 p0 l0 nb r )
  refine env_then (m := 2) (n := 4) bInt3aDs (bInt3aEs p0 l0 nb r) rfl (by kernel_rfl) (by decide) (by kernel_rfl) (of_decide_eq_true (by kernel_rfl)) (by kernel_rfl) (by kernel_rfl) (fun i_ hi_ => hall i_ hi_) h fun a w h => ?_
  clear hall
  have h := h.keep [1, 990, 4, 3, 15, 2]
  show wpOps Try.prog _ Q [2, 3] a w
  refine env_store (i := 2) (x := 3) (y := 15) (r := r) [(1, .sat (nP 0 (some r) p0 l0)), (990, .sat (gP nb (some r))), (4, .val (.bool false)), (15, .sat (nT nb (some r) (((Bl.check p0 l0 ((p0.1) == 1) (⟨#[105, 110, 116, 101, 103, 101, 114]⟩)).1).1) (((Bl.check p0 l0 ((p0.1) == 1) (⟨#[105, 110, 116, 101, 103, 101, 114]⟩)).1).2))), (2, .val (.int .i64 0))] (by kernel_rfl) rfl rfl hr (stays_cons 1 rfl (away_nP _ _ _ _) (stays_cons 990 rfl (away_gP _ _ _) (stays_cons 4 rfl (away_val _ _) (stays_cons 15 rfl (away_nT _ _ _ _) (stays_cons 2 rfl (away_val _ _) (stays_nil _ _)))))) h ?_
  clear h
  intro a w h
  refine env_one (i := 3) (d := 4) (k := .val (.bool false)) (step_assign (by kernel_rfl) (Opd.const _) rfl) (by kernel_rfl) (by decide) h ?_
  clear h
  intro a w h
  exact hQ a w (h.keep [1, 990, 4, 2, 3])
set_option maxHeartbeats 1000000 in
theorem bInt_any (p0 : Pay) (l0 : Fo) (A0 : Option Addr) (c0 : Nat) (B : Nat) (w : World) (hA0 : ArgsB w B A0 (Tm.len l0) l0) (hB : B ≤ w.heap.size)  : Calls Try.prog 37 #[tv p0 A0 (Tm.len l0) c0] w (MkXB w.heap.size (.int .i64 (Bl.int p0 l0).1) ((Bl.int p0 l0).2.1).1 ((Bl.int p0 l0).2.1).2 ((Bl.int p0 l0).2.2) w) := by
  refine calls_of_wp Try.func37 bInt_body ?_
  obtain ⟨v0, hv0⟩ : ∃ v : Value, v = tv p0 A0 (Tm.len l0) c0 := ⟨_, rfl⟩
  rw [← hv0]
  have hk0 : (Kd.term p0 l0).R v0 w := by rw [hv0]; exact ⟨A0, c0, rfl, hA0.up hB⟩
  have hsN : (#[v0] ++ Array.replicate (Try.f37.ntmps - #[v0].size) undef : Array Value).size = 19 := by kernel_rfl
  have gs0 : (#[v0] ++ Array.replicate (Try.f37.ntmps - #[v0].size) undef : Array Value).getD 0 undef = v0 := by kernel_rfl
  generalize (#[v0] ++ Array.replicate (Try.f37.ntmps - #[v0].size) undef : Array Value) = tm at hsN gs0 ⊢
  obtain ⟨a, ha0⟩ : ∃ a : Act, a = ⟨tm, []⟩ := ⟨_, rfl⟩
  have h : Hold 19 [(0, .term p0 l0)] w ⟨tm, []⟩ w := ⟨hsN, rfl, Below.refl _ _, (slots_cons 0 (by rw [gs0]; exact hk0) slots_nil)⟩
  obtain ⟨nb, hnb⟩ : ∃ nb, nb = w.heap.size := ⟨_, rfl⟩
  have hn : nb ≤ w.heap.size := by omega
  refine wp_seq ?_
  refine bInt0a_region p0 l0 nb  hn h ?_
  intro r a w1 hr h
  show Code.wp _ _ _ a w1
  refine wp_seq ?_
  refine bInt1a_region p0 l0 nb r  hr h ?_
  intro a w1 h
  show Code.wp _ _ _ a w1
  refine wp_seq ?_
  refine wp_seq ?_
  rcases Bool.eq_false_or_eq_true ((Bl.check p0 l0 ((p0.1) == 1) (⟨#[105, 110, 116, 101, 103, 101, 114]⟩)).2) with hc | hc
  · rw [hc] at h
    refine bInt2a_region p0 l0 nb r  hr h ?_
    intro a w1 h
    show Code.wp _ _ _ a w1
    refine env_cond (b := false) rfl h ?_
    refine wp_skip ?_
    have h := h.keep [1, 2, 990, 4, 3]
    show Code.wp _ _ _ a w1
    refine wp_seq ?_
    refine bInt4a_region p0 l0 nb r  hr h ?_
    intro a w1 h
    show Code.wp _ _ _ a w1
    have ev : Bl.int p0 l0 = ((p0.2.1), ((zp, .nil), true)) := by simp [Bl.int, hc]
    rw [ev]
    refine wp_ret ?_
    (try simp only [then_ret, block_ret])
    exact law_xcb rfl (h.get 2 rfl) (h.get 4 rfl) (h.get 3 rfl) h.defers fun A c ha => ⟨A, c, rfl, ha.mono fun b hb => ⟨by have := hb.1; omega, hb.2.1⟩, h.world⟩
  · rw [hc] at h
    refine bInt2b_region p0 l0 nb r  hr h ?_
    intro a w1 h
    show Code.wp _ _ _ a w1
    refine env_cond (b := true) rfl h ?_
    have h := h.keep [1, 2, 990, 4, 3]
    show Code.wp _ _ _ a w1
    refine wp_seq ?_
    have h := h.keep [1, 990, 4, 3]
    refine bInt3a_region p0 l0 nb r  hr h ?_
    intro a w1 h
    show Code.wp _ _ _ a w1
    have ev : Bl.int p0 l0 = (0, ((((Bl.check p0 l0 ((p0.1) == 1) (⟨#[105, 110, 116, 101, 103, 101, 114]⟩)).1).1, ((Bl.check p0 l0 ((p0.1) == 1) (⟨#[105, 110, 116, 101, 103, 101, 114]⟩)).1).2), false)) := by simp [Bl.int, hc]
    rw [ev]
    refine wp_ret ?_
    (try simp only [then_ret, block_ret])
    exact law_xcb rfl (h.get 2 rfl) (h.get 4 rfl) (h.get 3 rfl) h.defers fun A c ha => ⟨A, c, rfl, ha.mono fun b hb => ⟨by have := hb.1; omega, hb.2.1⟩, h.world⟩
section
variable {ops : Array Oper} {Q : Exit → Act → World → Prop} {E : Nat → Kd} {D : Nat → Nat} {base : Nat → Option Kd} {N : Nat}
theorem step_bInt {i : Nat} {n g : Nat} {G : Option Nat} {x0 : Operand} {p0 : Pay} {l0 : Fo} (hop : (ops[i]?).map (·.op) = some (.call { callee := .value (.func 37), args := #[x0], argTypes := #[24] })) (h0 : Opd ops E D base N i x0 (.term p0 l0)) (hg : Opd ops E D base N i (.tmp g) (.sat (gP n G))) (hE : E i = .sat (nT3 n G (.int .i64 (Bl.int p0 l0).1) ((Bl.int p0 l0).2.1).1 ((Bl.int p0 l0).2.1).2 ((Bl.int p0 l0).2.2))) : Step Try.prog ops Q E D base N i :=
  step_mkXB hop (fun _ _ => by kernel_rfl) hg (fun a w h => by
    obtain ⟨A0, c0, e0, ha0⟩ := h0 a w h
    rw [show (#[x0] : Array Operand).map a.eval = #[tv p0 A0 (Tm.len l0) c0] by rw [← e0]; simp]
    exact bInt_any p0 l0 A0 c0 w.heap.size w ha0 (Nat.le_refl _)) hE
end
noncomputable def bCallable0Ops : Array Oper := ((Try.f39.body).bind (findReg 0)).getD #[]
noncomputable def bCallable1Ops : Array Oper := ((Try.f39.body).bind (findReg 1)).getD #[]
theorem bCallable_body : Try.f39.body = some (.seq (.region 0 bCallable0Ops false) (.seq (.region 1 bCallable1Ops false) .ret)) := by kernel_rfl
theorem bCallable0a_region {Q : Exit → Act → World → Prop} (p0 : Pay) (l0 : Fo) (nb : Nat)  {w0 : World} {a : Act} {w : World} (hn : nb ≤ w0.heap.size) (h : Hold 11 [(0, .term p0 l0)] w0 a w)
    (hQ : ∀ r a' w', w0.heap.size ≤ r → Hold 11 [(1, .sat (nP 0 (some r) p0 l0)), (2, .sat (rC nb r zp .nil)), (990, .sat (gP nb (some r))), (3, .val (.bool false))] w0 a' w' → Q .normal a' w') : (Code.region 0 bCallable0Ops false).wp Try.prog Q a w := by
  refine region_seq (w0 := w) 3 (by kernel_rfl) ?_
  rw [show List.range 3 = [0, 1, 2] from rfl]
  refine env_one (i := 0) (d := 1) (k := .ptrT p0 l0) (step_box (by kernel_rfl) (Opd.of_base 0 rfl) rfl) (by kernel_rfl) (by decide) h ?_
  clear h
  intro a w h
  refine env_res (i := 1) (d := 2) (n := nb) (fun r => [(0, .sat (nT 0 (some r) p0 l0)), (1, .sat (nP 0 (some r) p0 l0))]) (by kernel_rfl) (by decide) (by decide) hn (fun r => (goes_cons 0 rfl (turns_term _ _ _) (goes_cons 1 rfl (turns_ptr _ _ _) (goes_nil _ _)))) h ?_
  clear h
  intro r a w hr h
  refine env_one (i := 2) (d := 3) (k := .val (.bool false)) (step_assign (by kernel_rfl) (Opd.const _) rfl) (by kernel_rfl) (by decide) h ?_
  clear h
  intro a w h
  exact hQ r a w hr (h.keep [1, 2, 990, 3])
theorem bCallable1a_region {Q : Exit → Act → World → Prop} (p0 : Pay) (l0 : Fo) (nb r : Nat)  {w0 : World} {a : Act} {w : World} (hr : w0.heap.size ≤ r) (h : Hold 11 [(1, .sat (nP 0 (some r) p0 l0)), (2, .sat (rC nb r zp .nil)), (990, .sat (gP nb (some r))), (3, .val (.bool false))] w0 a w)
    (hQ : ∀ a' w', Hold 11 [(990, .sat (gP nb (some r))), (3, .val (.bool ((Bl.check p0 l0 ((p0.1) != 1) (⟨#[99, 97, 108, 108, 97, 98, 108, 101]⟩)).2))), (2, .sat (rC nb r (((Bl.check p0 l0 ((p0.1) != 1) (⟨#[99, 97, 108, 108, 97, 98, 108, 101]⟩)).1).1) (((Bl.check p0 l0 ((p0.1) != 1) (⟨#[99, 97, 108, 108, 97, 98, 108, 101]⟩)).1).2)))] w0 a' w' → Q .normal a' w') : (Code.region 1 bCallable1Ops false).wp Try.prog Q a w := by
  refine region_seq (w0 := w) 9 (by kernel_rfl) ?_
  rw [show List.range 9 = [0, 1, 2, 3, 4, 5, 6, 7, 8] from rfl]
  refine env_one (i := 0) (d := 4) (k := .sat (nT 0 (some r) p0 l0)) (step_nload (by kernel_rfl) (Opd.of_base 1 rfl) rfl) (by kernel_rfl) (by decide) h ?_
  clear h
  intro a w h
  refine env_one (i := 1) (d := 5) (k := .ptrI (p0.1)) (step_field0 (by kernel_rfl) (Opd.ofP (Opd.of_base 1 rfl)) rfl) (by kernel_rfl) (by decide) h ?_
  clear h
  intro a w h
  refine env_one (i := 2) (d := 6) (k := .val (.int .i64 (p0.1))) (step_load_int3 (by kernel_rfl) (Opd.of_base 5 rfl) rfl) (by kernel_rfl) (by decide) h ?_
  clear h
  intro a w h
  refine env_one (i := 3) (d := 7) (k := .val (.bool ((p0.1) != 1))) (step_ne_int (m := (p0.1)) (n := 1) (by kernel_rfl) (Opd.of_base 6 rfl) (Opd.const _) rfl rfl) (by kernel_rfl) (by decide) h ?_
  clear h
  intro a w h
  refine env_one (i := 4) (d := 8) (k := .sat (nT2 nb (some r) (((Bl.check p0 l0 ((p0.1) != 1) (⟨#[99, 97, 108, 108, 97, 98, 108, 101]⟩)).1).1) (((Bl.check p0 l0 ((p0.1) != 1) (⟨#[99, 97, 108, 108, 97, 98, 108, 101]⟩)).1).2) ((Bl.check p0 l0 ((p0.1) != 1) (⟨#[99, 97, 108, 108, 97, 98, 108, 101]⟩)).2))) (step_bCheck (g := 990) (by kernel_rfl) (Opd.ofT (Opd.of_base 4 rfl)) (Opd.of_base 7 rfl) (Opd.const _) (Opd.of_base 990 rfl) rfl) (by kernel_rfl) (by decide) h ?_
  clear h
  intro a w h
  refine env_one (i := 5) (d := 9) (k := .sat (nT nb (some r) (((Bl.check p0 l0 ((p0.1) != 1) (⟨#[99, 97, 108, 108, 97, 98, 108, 101]⟩)).1).1) (((Bl.check p0 l0 ((p0.1) != 1) (⟨#[99, 97, 108, 108, 97, 98, 108, 101]⟩)).1).2))) (step_nT2_0 (by kernel_rfl) (Opd.of_base 8 rfl) rfl) (by kernel_rfl) (by decide) h ?_
  clear h
  intro a w h
  refine env_one (i := 6) (d := 10) (k := .val (.bool ((Bl.check p0 l0 ((p0.1) != 1) (⟨#[99, 97, 108, 108, 97, 98, 108, 101]⟩)).2))) (step_nT2_1 (by kernel_rfl) (Opd.of_base 8 rfl) rfl) (by kernel_rfl) (by decide) h ?_
  clear h
  intro a w h
  refine env_store (i := 7) (x := 2) (y := 9) (r := r) [(1, .sat (nP 0 (some r) p0 l0)), (990, .sat (gP nb (some r))), (3, .val (.bool false)), (4, .sat (nT 0 (some r) p0 l0)), (6, .val (.int .i64 (p0.1))), (7, .val (.bool ((p0.1) != 1))), (8, .sat (nT2 nb (some r) (((Bl.check p0 l0 ((p0.1) != 1) (⟨#[99, 97, 108, 108, 97, 98, 108, 101]⟩)).1).1) (((Bl.check p0 l0 ((p0.1) != 1) (⟨#[99, 97, 108, 108, 97, 98, 108, 101]⟩)).1).2) ((Bl.check p0 l0 ((p0.1) != 1) (⟨#[99, 97, 108, 108, 97, 98, 108, 101]⟩)).2))), (9, .sat (nT nb (some r) (((Bl.check p0 l0 ((p0.1) != 1) (⟨#[99, 97, 108, 108, 97, 98, 108, 101]⟩)).1).1) (((Bl.check p0 l0 ((p0.1) != 1) (⟨#[99, 97, 108, 108, 97, 98, 108, 101]⟩)).1).2))), (10, .val (.bool ((Bl.check p0 l0 ((p0.1) != 1) (⟨#[99, 97, 108, 108, 97, 98, 108, 101]⟩)).2)))] (by kernel_rfl) rfl rfl hr (stays_cons 1 rfl (away_nP _ _ _ _) (stays_cons 990 rfl (away_gP _ _ _) (stays_cons 3 rfl (away_val _ _) (stays_cons 4 rfl (away_nT _ _ _ _) (stays_cons 6 rfl (away_val _ _) (stays_cons 7 rfl (away_val _ _) (stays_cons 8 rfl (away_nT2 _ _ _ _ _) (stays_cons 9 rfl (away_nT _ _ _ _) (stays_cons 10 rfl (away_val _ _) (stays_nil _ _)))))))))) h ?_
  clear h
  intro a w h
  refine env_one (i := 8) (d := 3) (k := .val (.bool ((Bl.check p0 l0 ((p0.1) != 1) (⟨#[99, 97, 108, 108, 97, 98, 108, 101]⟩)).2))) (step_assign (by kernel_rfl) (Opd.of_base 10 rfl) rfl) (by kernel_rfl) (by decide) h ?_
  clear h
  intro a w h
  exact hQ a w (h.keep [990, 3, 2])
set_option maxHeartbeats 1000000 in
theorem bCallable_any (p0 : Pay) (l0 : Fo) (A0 : Option Addr) (c0 : Nat) (B : Nat) (w : World) (hA0 : ArgsB w B A0 (Tm.len l0) l0) (hB : B ≤ w.heap.size)  : Calls Try.prog 39 #[tv p0 A0 (Tm.len l0) c0] w (MkB w.heap.size ((Bl.callable p0 l0).1).1 ((Bl.callable p0 l0).1).2 ((Bl.callable p0 l0).2) w) := by
  refine calls_of_wp Try.func39 bCallable_body ?_
  obtain ⟨v0, hv0⟩ : ∃ v : Value, v = tv p0 A0 (Tm.len l0) c0 := ⟨_, rfl⟩
  rw [← hv0]
  have hk0 : (Kd.term p0 l0).R v0 w := by rw [hv0]; exact ⟨A0, c0, rfl, hA0.up hB⟩
  have hsN : (#[v0] ++ Array.replicate (Try.f39.ntmps - #[v0].size) undef : Array Value).size = 11 := by kernel_rfl
  have gs0 : (#[v0] ++ Array.replicate (Try.f39.ntmps - #[v0].size) undef : Array Value).getD 0 undef = v0 := by kernel_rfl
  generalize (#[v0] ++ Array.replicate (Try.f39.ntmps - #[v0].size) undef : Array Value) = tm at hsN gs0 ⊢
  obtain ⟨a, ha0⟩ : ∃ a : Act, a = ⟨tm, []⟩ := ⟨_, rfl⟩
  have h : Hold 11 [(0, .term p0 l0)] w ⟨tm, []⟩ w := ⟨hsN, rfl, Below.refl _ _, (slots_cons 0 (by rw [gs0]; exact hk0) slots_nil)⟩
  obtain ⟨nb, hnb⟩ : ∃ nb, nb = w.heap.size := ⟨_, rfl⟩
  have hn : nb ≤ w.heap.size := by omega
  refine wp_seq ?_
  refine bCallable0a_region p0 l0 nb  hn h ?_
  intro r a w1 hr h
  show Code.wp _ _ _ a w1
  refine wp_seq ?_
  refine bCallable1a_region p0 l0 nb r  hr h ?_
  intro a w1 h
  show Code.wp _ _ _ a w1
  refine wp_ret ?_
  (try simp only [then_ret, block_ret])
  exact law_cb rfl (h.get 3 rfl) (h.get 2 rfl) h.defers fun A c ha => ⟨A, c, rfl, ha.mono fun b hb => ⟨by have := hb.1; omega, hb.2.1⟩, h.world⟩
section
variable {ops : Array Oper} {Q : Exit → Act → World → Prop} {E : Nat → Kd} {D : Nat → Nat} {base : Nat → Option Kd} {N : Nat}
theorem step_bCallable {i : Nat} {n g : Nat} {G : Option Nat} {x0 : Operand} {p0 : Pay} {l0 : Fo} (hop : (ops[i]?).map (·.op) = some (.call { callee := .value (.func 39), args := #[x0], argTypes := #[24] })) (h0 : Opd ops E D base N i x0 (.term p0 l0)) (hg : Opd ops E D base N i (.tmp g) (.sat (gP n G))) (hE : E i = .sat (nT2 n G ((Bl.callable p0 l0).1).1 ((Bl.callable p0 l0).1).2 ((Bl.callable p0 l0).2))) : Step Try.prog ops Q E D base N i :=
  step_mkB hop (fun _ _ => by kernel_rfl) hg (fun a w h => by
    obtain ⟨A0, c0, e0, ha0⟩ := h0 a w h
    rw [show (#[x0] : Array Operand).map a.eval = #[tv p0 A0 (Tm.len l0) c0] by rw [← e0]; simp]
    exact bCallable_any p0 l0 A0 c0 w.heap.size w ha0 (Nat.le_refl _)) hE
end
noncomputable def bAtomic0Ops : Array Oper := ((Try.f41.body).bind (findReg 0)).getD #[]
noncomputable def bAtomic1Ops : Array Oper := ((Try.f41.body).bind (findReg 1)).getD #[]
theorem bAtomic_body : Try.f41.body = some (.seq (.region 0 bAtomic0Ops false) (.seq (.region 1 bAtomic1Ops false) .ret)) := by kernel_rfl
theorem bAtomic0a_region {Q : Exit → Act → World → Prop} (p0 : Pay) (l0 : Fo) (nb : Nat)  {w0 : World} {a : Act} {w : World} (hn : nb ≤ w0.heap.size) (h : Hold 11 [(0, .term p0 l0)] w0 a w)
    (hQ : ∀ r a' w', w0.heap.size ≤ r → Hold 11 [(1, .sat (nP 0 (some r) p0 l0)), (2, .sat (rC nb r zp .nil)), (990, .sat (gP nb (some r))), (3, .val (.bool false))] w0 a' w' → Q .normal a' w') : (Code.region 0 bAtomic0Ops false).wp Try.prog Q a w := by
  refine region_seq (w0 := w) 3 (by kernel_rfl) ?_
  rw [show List.range 3 = [0, 1, 2] from rfl]
  refine env_one (i := 0) (d := 1) (k := .ptrT p0 l0) (step_box (by kernel_rfl) (Opd.of_base 0 rfl) rfl) (by kernel_rfl) (by decide) h ?_
  clear h
  intro a w h
  refine env_res (i := 1) (d := 2) (n := nb) (fun r => [(0, .sat (nT 0 (some r) p0 l0)), (1, .sat (nP 0 (some r) p0 l0))]) (by kernel_rfl) (by decide) (by decide) hn (fun r => (goes_cons 0 rfl (turns_term _ _ _) (goes_cons 1 rfl (turns_ptr _ _ _) (goes_nil _ _)))) h ?_
  clear h
  intro r a w hr h
  refine env_one (i := 2) (d := 3) (k := .val (.bool false)) (step_assign (by kernel_rfl) (Opd.const _) rfl) (by kernel_rfl) (by decide) h ?_
  clear h
  intro a w h
  exact hQ r a w hr (h.keep [1, 2, 990, 3])
theorem bAtomic1a_region {Q : Exit → Act → World → Prop} (p0 : Pay) (l0 : Fo) (nb r : Nat)  {w0 : World} {a : Act} {w : World} (hr : w0.heap.size ≤ r) (h : Hold 11 [(1, .sat (nP 0 (some r) p0 l0)), (2, .sat (rC nb r zp .nil)), (990, .sat (gP nb (some r))), (3, .val (.bool false))] w0 a w)
    (hQ : ∀ a' w', Hold 11 [(990, .sat (gP nb (some r))), (3, .val (.bool ((Bl.check p0 l0 ((p0.1) != 3) (⟨#[97, 116, 111, 109, 105, 99]⟩)).2))), (2, .sat (rC nb r (((Bl.check p0 l0 ((p0.1) != 3) (⟨#[97, 116, 111, 109, 105, 99]⟩)).1).1) (((Bl.check p0 l0 ((p0.1) != 3) (⟨#[97, 116, 111, 109, 105, 99]⟩)).1).2)))] w0 a' w' → Q .normal a' w') : (Code.region 1 bAtomic1Ops false).wp Try.prog Q a w := by
  refine region_seq (w0 := w) 9 (by kernel_rfl) ?_
  rw [show List.range 9 = [0, 1, 2, 3, 4, 5, 6, 7, 8] from rfl]
  refine env_one (i := 0) (d := 4) (k := .sat (nT 0 (some r) p0 l0)) (step_nload (by kernel_rfl) (Opd.of_base 1 rfl) rfl) (by kernel_rfl) (by decide) h ?_
  clear h
  intro a w h
  refine env_one (i := 1) (d := 5) (k := .ptrI (p0.1)) (step_field0 (by kernel_rfl) (Opd.ofP (Opd.of_base 1 rfl)) rfl) (by kernel_rfl) (by decide) h ?_
  clear h
  intro a w h
  refine env_one (i := 2) (d := 6) (k := .val (.int .i64 (p0.1))) (step_load_int3 (by kernel_rfl) (Opd.of_base 5 rfl) rfl) (by kernel_rfl) (by decide) h ?_
  clear h
  intro a w h
  refine env_one (i := 3) (d := 7) (k := .val (.bool ((p0.1) != 3))) (step_ne_int (m := (p0.1)) (n := 3) (by kernel_rfl) (Opd.of_base 6 rfl) (Opd.const _) rfl rfl) (by kernel_rfl) (by decide) h ?_
  clear h
  intro a w h
  refine env_one (i := 4) (d := 8) (k := .sat (nT2 nb (some r) (((Bl.check p0 l0 ((p0.1) != 3) (⟨#[97, 116, 111, 109, 105, 99]⟩)).1).1) (((Bl.check p0 l0 ((p0.1) != 3) (⟨#[97, 116, 111, 109, 105, 99]⟩)).1).2) ((Bl.check p0 l0 ((p0.1) != 3) (⟨#[97, 116, 111, 109, 105, 99]⟩)).2))) (step_bCheck (g := 990) (by kernel_rfl) (Opd.ofT (Opd.of_base 4 rfl)) (Opd.of_base 7 rfl) (Opd.const _) (Opd.of_base 990 rfl) rfl) (by kernel_rfl) (by decide) h ?_
  clear h
  intro a w h
  refine env_one (i := 5) (d := 9) (k := .sat (nT nb (some r) (((Bl.check p0 l0 ((p0.1) != 3) (⟨#[97, 116, 111, 109, 105, 99]⟩)).1).1) (((Bl.check p0 l0 ((p0.1) != 3) (⟨#[97, 116, 111, 109, 105, 99]⟩)).1).2))) (step_nT2_0 (by kernel_rfl) (Opd.of_base 8 rfl) rfl) (by kernel_rfl) (by decide) h ?_
  clear h
  intro a w h
  refine env_one (i := 6) (d := 10) (k := .val (.bool ((Bl.check p0 l0 ((p0.1) != 3) (⟨#[97, 116, 111, 109, 105, 99]⟩)).2))) (step_nT2_1 (by kernel_rfl) (Opd.of_base 8 rfl) rfl) (by kernel_rfl) (by decide) h ?_
  clear h
  intro a w h
  refine env_store (i := 7) (x := 2) (y := 9) (r := r) [(1, .sat (nP 0 (some r) p0 l0)), (990, .sat (gP nb (some r))), (3, .val (.bool false)), (4, .sat (nT 0 (some r) p0 l0)), (6, .val (.int .i64 (p0.1))), (7, .val (.bool ((p0.1) != 3))), (8, .sat (nT2 nb (some r) (((Bl.check p0 l0 ((p0.1) != 3) (⟨#[97, 116, 111, 109, 105, 99]⟩)).1).1) (((Bl.check p0 l0 ((p0.1) != 3) (⟨#[97, 116, 111, 109, 105, 99]⟩)).1).2) ((Bl.check p0 l0 ((p0.1) != 3) (⟨#[97, 116, 111, 109, 105, 99]⟩)).2))), (9, .sat (nT nb (some r) (((Bl.check p0 l0 ((p0.1) != 3) (⟨#[97, 116, 111, 109, 105, 99]⟩)).1).1) (((Bl.check p0 l0 ((p0.1) != 3) (⟨#[97, 116, 111, 109, 105, 99]⟩)).1).2))), (10, .val (.bool ((Bl.check p0 l0 ((p0.1) != 3) (⟨#[97, 116, 111, 109, 105, 99]⟩)).2)))] (by kernel_rfl) rfl rfl hr (stays_cons 1 rfl (away_nP _ _ _ _) (stays_cons 990 rfl (away_gP _ _ _) (stays_cons 3 rfl (away_val _ _) (stays_cons 4 rfl (away_nT _ _ _ _) (stays_cons 6 rfl (away_val _ _) (stays_cons 7 rfl (away_val _ _) (stays_cons 8 rfl (away_nT2 _ _ _ _ _) (stays_cons 9 rfl (away_nT _ _ _ _) (stays_cons 10 rfl (away_val _ _) (stays_nil _ _)))))))))) h ?_
  clear h
  intro a w h
  refine env_one (i := 8) (d := 3) (k := .val (.bool ((Bl.check p0 l0 ((p0.1) != 3) (⟨#[97, 116, 111, 109, 105, 99]⟩)).2))) (step_assign (by kernel_rfl) (Opd.of_base 10 rfl) rfl) (by kernel_rfl) (by decide) h ?_
  clear h
  intro a w h
  exact hQ a w (h.keep [990, 3, 2])
set_option maxHeartbeats 1000000 in
theorem bAtomic_any (p0 : Pay) (l0 : Fo) (A0 : Option Addr) (c0 : Nat) (B : Nat) (w : World) (hA0 : ArgsB w B A0 (Tm.len l0) l0) (hB : B ≤ w.heap.size)  : Calls Try.prog 41 #[tv p0 A0 (Tm.len l0) c0] w (MkB w.heap.size ((Bl.atomic p0 l0).1).1 ((Bl.atomic p0 l0).1).2 ((Bl.atomic p0 l0).2) w) := by
  refine calls_of_wp Try.func41 bAtomic_body ?_
  obtain ⟨v0, hv0⟩ : ∃ v : Value, v = tv p0 A0 (Tm.len l0) c0 := ⟨_, rfl⟩
  rw [← hv0]
  have hk0 : (Kd.term p0 l0).R v0 w := by rw [hv0]; exact ⟨A0, c0, rfl, hA0.up hB⟩
  have hsN : (#[v0] ++ Array.replicate (Try.f41.ntmps - #[v0].size) undef : Array Value).size = 11 := by kernel_rfl
  have gs0 : (#[v0] ++ Array.replicate (Try.f41.ntmps - #[v0].size) undef : Array Value).getD 0 undef = v0 := by kernel_rfl
  generalize (#[v0] ++ Array.replicate (Try.f41.ntmps - #[v0].size) undef : Array Value) = tm at hsN gs0 ⊢
  obtain ⟨a, ha0⟩ : ∃ a : Act, a = ⟨tm, []⟩ := ⟨_, rfl⟩
  have h : Hold 11 [(0, .term p0 l0)] w ⟨tm, []⟩ w := ⟨hsN, rfl, Below.refl _ _, (slots_cons 0 (by rw [gs0]; exact hk0) slots_nil)⟩
  obtain ⟨nb, hnb⟩ : ∃ nb, nb = w.heap.size := ⟨_, rfl⟩
  have hn : nb ≤ w.heap.size := by omega
  refine wp_seq ?_
  refine bAtomic0a_region p0 l0 nb  hn h ?_
  intro r a w1 hr h
  show Code.wp _ _ _ a w1
  refine wp_seq ?_
  refine bAtomic1a_region p0 l0 nb r  hr h ?_
  intro a w1 h
  show Code.wp _ _ _ a w1
  refine wp_ret ?_
  (try simp only [then_ret, block_ret])
  exact law_cb rfl (h.get 3 rfl) (h.get 2 rfl) h.defers fun A c ha => ⟨A, c, rfl, ha.mono fun b hb => ⟨by have := hb.1; omega, hb.2.1⟩, h.world⟩
section
variable {ops : Array Oper} {Q : Exit → Act → World → Prop} {E : Nat → Kd} {D : Nat → Nat} {base : Nat → Option Kd} {N : Nat}
theorem step_bAtomic {i : Nat} {n g : Nat} {G : Option Nat} {x0 : Operand} {p0 : Pay} {l0 : Fo} (hop : (ops[i]?).map (·.op) = some (.call { callee := .value (.func 41), args := #[x0], argTypes := #[24] })) (h0 : Opd ops E D base N i x0 (.term p0 l0)) (hg : Opd ops E D base N i (.tmp g) (.sat (gP n G))) (hE : E i = .sat (nT2 n G ((Bl.atomic p0 l0).1).1 ((Bl.atomic p0 l0).1).2 ((Bl.atomic p0 l0).2))) : Step Try.prog ops Q E D base N i :=
  step_mkB hop (fun _ _ => by kernel_rfl) hg (fun a w h => by
    obtain ⟨A0, c0, e0, ha0⟩ := h0 a w h
    rw [show (#[x0] : Array Operand).map a.eval = #[tv p0 A0 (Tm.len l0) c0] by rw [← e0]; simp]
    exact bAtomic_any p0 l0 A0 c0 w.heap.size w ha0 (Nat.le_refl _)) hE
end
noncomputable def bChar0Ops : Array Oper := ((Try.f45.body).bind (findReg 0)).getD #[]
noncomputable def bChar1Ops : Array Oper := ((Try.f45.body).bind (findReg 1)).getD #[]
noncomputable def bChar2Ops : Array Oper := ((Try.f45.body).bind (findReg 2)).getD #[]
noncomputable def bChar3Ops : Array Oper := ((Try.f45.body).bind (findReg 3)).getD #[]
noncomputable def bChar4Ops : Array Oper := ((Try.f45.body).bind (findReg 4)).getD #[]
theorem bChar_body : Try.f45.body = some (.seq (.region 0 bChar0Ops false) (.seq (.region 1 bChar1Ops false) (.seq (.seq (.region 2 bChar2Ops false) (.cond (.tmp 20) (.seq (.region 3 bChar3Ops true) .ret) .skip)) (.seq (.region 4 bChar4Ops false) .ret)))) := by kernel_rfl
theorem bChar0a_region {Q : Exit → Act → World → Prop} (p0 : Pay) (l0 : Fo) (nb : Nat)  {w0 : World} {a : Act} {w : World} (hn : nb ≤ w0.heap.size) (h : Hold 27 [(0, .term p0 l0)] w0 a w)
    (hQ : ∀ r a' w', w0.heap.size ≤ r → Hold 27 [(1, .sat (nP 0 (some r) p0 l0)), (2, .val (.int .i64 0)), (3, .sat (rC nb r zp .nil)), (990, .sat (gP nb (some r))), (4, .val (.bool false))] w0 a' w' → Q .normal a' w') : (Code.region 0 bChar0Ops false).wp Try.prog Q a w := by
  refine region_seq (w0 := w) 4 (by kernel_rfl) ?_
  rw [show List.range 4 = [0, 1, 2, 3] from rfl]
  refine env_one (i := 0) (d := 1) (k := .ptrT p0 l0) (step_box (by kernel_rfl) (Opd.of_base 0 rfl) rfl) (by kernel_rfl) (by decide) h ?_
  clear h
  intro a w h
  refine env_one (i := 1) (d := 2) (k := .val (.int .i64 0)) (step_assign (by kernel_rfl) (Opd.const _) rfl) (by kernel_rfl) (by decide) h ?_
  clear h
  intro a w h
  refine env_res (i := 2) (d := 3) (n := nb) (fun r => [(0, .sat (nT 0 (some r) p0 l0)), (1, .sat (nP 0 (some r) p0 l0)), (2, .val (.int .i64 0))]) (by kernel_rfl) (by decide) (by decide) hn (fun r => (goes_cons 0 rfl (turns_term _ _ _) (goes_cons 1 rfl (turns_ptr _ _ _) (goes_cons 2 rfl (turns_val _ _) (goes_nil _ _))))) h ?_
  clear h
  intro r a w hr h
  refine env_one (i := 3) (d := 4) (k := .val (.bool false)) (step_assign (by kernel_rfl) (Opd.const _) rfl) (by kernel_rfl) (by decide) h ?_
  clear h
  intro a w h
  exact hQ r a w hr (h.keep [1, 2, 3, 990, 4])
theorem bChar1a_region {Q : Exit → Act → World → Prop} (p0 : Pay) (l0 : Fo) (nb r : Nat) (h1 : ¬ p0.1 = 2) {w0 : World} {a : Act} {w : World} (hr : w0.heap.size ≤ r) (h : Hold 27 [(1, .sat (nP 0 (some r) p0 l0)), (2, .val (.int .i64 0)), (3, .sat (rC nb r zp .nil)), (990, .sat (gP nb (some r))), (4, .val (.bool false))] w0 a w)
    (hQ : ∀ a' w', Hold 27 [(1, .sat (nP 0 (some r) p0 l0)), (2, .val (.int .i64 0)), (990, .sat (gP nb (some r))), (4, .val (.bool ((Bl.check p0 l0 false (⟨#[99, 104, 97, 114, 97, 99, 116, 101, 114]⟩)).2))), (3, .sat (rC nb r (((Bl.check p0 l0 false (⟨#[99, 104, 97, 114, 97, 99, 116, 101, 114]⟩)).1).1) (((Bl.check p0 l0 false (⟨#[99, 104, 97, 114, 97, 99, 116, 101, 114]⟩)).1).2)))] w0 a' w' → Q .normal a' w') : (Code.region 1 bChar1Ops false).wp Try.prog Q a w := by
  refine region_seq (w0 := w) 16 (by kernel_rfl) ?_
  rw [show List.range 16 = [0, 1, 2, 3, 4, 5, 6, 7, 8, 9, 10, 11, 12, 13, 14, 15] from rfl]
  refine env_one (i := 0) (d := 6) (k := .sat (nT 0 (some r) p0 l0)) (step_nload (by kernel_rfl) (Opd.of_base 1 rfl) rfl) (by kernel_rfl) (by decide) h ?_
  clear h
  intro a w h
  refine env_one (i := 1) (d := 7) (k := .ptrI (p0.1)) (step_field0 (by kernel_rfl) (Opd.ofP (Opd.of_base 1 rfl)) rfl) (by kernel_rfl) (by decide) h ?_
  clear h
  intro a w h
  refine env_one (i := 2) (d := 8) (k := .val (.int .i64 (p0.1))) (step_load_int3 (by kernel_rfl) (Opd.of_base 7 rfl) rfl) (by kernel_rfl) (by decide) h ?_
  clear h
  intro a w h
  refine env_one (i := 3) (d := 9) (k := .val (.bool false)) (step_eqb_int (m := (p0.1)) (n := 2) (by kernel_rfl) (Opd.of_base 8 rfl) (Opd.const _) (by simpa using h1) rfl) (by kernel_rfl) (by decide) h ?_
  clear h
  intro a w h
  refine env_one (i := 4) (d := 10) (k := .val (.bool false)) (step_move (by kernel_rfl) (Opd.of_base 9 rfl) rfl) (by kernel_rfl) (by decide) h ?_
  clear h
  intro a w h
  refine env_skip (i := 5) (d := 11) (g := 4) (dg := 10) (b := true) (by kernel_rfl) (by decide) (by kernel_rfl) rfl rfl h ?_
  clear h
  intro a w h
  refine env_skip (i := 6) (d := 12) (g := 4) (dg := 10) (b := true) (by kernel_rfl) (by decide) (by kernel_rfl) rfl rfl h ?_
  clear h
  intro a w h
  refine env_skip (i := 7) (d := 13) (g := 4) (dg := 10) (b := true) (by kernel_rfl) (by decide) (by kernel_rfl) rfl rfl h ?_
  clear h
  intro a w h
  refine env_skip (i := 8) (d := 14) (g := 4) (dg := 10) (b := true) (by kernel_rfl) (by decide) (by kernel_rfl) rfl rfl h ?_
  clear h
  intro a w h
  refine env_one (i := 9) (d := 15) (k := .val (.bool false)) (step_pick_no (x := .tmp 14) (by kernel_rfl) (Opd.of_base 10 rfl) (Opd.const _) rfl) (by kernel_rfl) (by decide) h ?_
  clear h
  intro a w h
  refine env_one (i := 10) (d := 16) (k := .sat (nT2 nb (some r) (((Bl.check p0 l0 false (⟨#[99, 104, 97, 114, 97, 99, 116, 101, 114]⟩)).1).1) (((Bl.check p0 l0 false (⟨#[99, 104, 97, 114, 97, 99, 116, 101, 114]⟩)).1).2) ((Bl.check p0 l0 false (⟨#[99, 104, 97, 114, 97, 99, 116, 101, 114]⟩)).2))) (step_bCheck (g := 990) (by kernel_rfl) (Opd.ofT (Opd.of_base 6 rfl)) (Opd.of_base 15 rfl) (Opd.const _) (Opd.of_base 990 rfl) rfl) (by kernel_rfl) (by decide) h ?_
  clear h
  intro a w h
  refine env_one (i := 11) (d := 5) (k := .sat (nT2 nb (some r) (((Bl.check p0 l0 false (⟨#[99, 104, 97, 114, 97, 99, 116, 101, 114]⟩)).1).1) (((Bl.check p0 l0 false (⟨#[99, 104, 97, 114, 97, 99, 116, 101, 114]⟩)).1).2) ((Bl.check p0 l0 false (⟨#[99, 104, 97, 114, 97, 99, 116, 101, 114]⟩)).2))) (step_move (by kernel_rfl) (Opd.of_base 16 rfl) rfl) (by kernel_rfl) (by decide) h ?_
  clear h
  intro a w h
  refine env_one (i := 12) (d := 17) (k := .sat (nT nb (some r) (((Bl.check p0 l0 false (⟨#[99, 104, 97, 114, 97, 99, 116, 101, 114]⟩)).1).1) (((Bl.check p0 l0 false (⟨#[99, 104, 97, 114, 97, 99, 116, 101, 114]⟩)).1).2))) (step_nT2_0 (by kernel_rfl) (Opd.of_base 5 rfl) rfl) (by kernel_rfl) (by decide) h ?_
  clear h
  intro a w h
  refine env_one (i := 13) (d := 18) (k := .val (.bool ((Bl.check p0 l0 false (⟨#[99, 104, 97, 114, 97, 99, 116, 101, 114]⟩)).2))) (step_nT2_1 (by kernel_rfl) (Opd.of_base 5 rfl) rfl) (by kernel_rfl) (by decide) h ?_
  clear h
  intro a w h
  refine env_store (i := 14) (x := 3) (y := 17) (r := r) [(1, .sat (nP 0 (some r) p0 l0)), (2, .val (.int .i64 0)), (990, .sat (gP nb (some r))), (4, .val (.bool false)), (6, .sat (nT 0 (some r) p0 l0)), (8, .val (.int .i64 (p0.1))), (9, .val (.bool false)), (10, .val (.bool false)), (11, .val undef), (12, .val undef), (13, .val undef), (14, .val undef), (15, .val (.bool false)), (16, .sat (nT2 nb (some r) (((Bl.check p0 l0 false (⟨#[99, 104, 97, 114, 97, 99, 116, 101, 114]⟩)).1).1) (((Bl.check p0 l0 false (⟨#[99, 104, 97, 114, 97, 99, 116, 101, 114]⟩)).1).2) ((Bl.check p0 l0 false (⟨#[99, 104, 97, 114, 97, 99, 116, 101, 114]⟩)).2))), (5, .sat (nT2 nb (some r) (((Bl.check p0 l0 false (⟨#[99, 104, 97, 114, 97, 99, 116, 101, 114]⟩)).1).1) (((Bl.check p0 l0 false (⟨#[99, 104, 97, 114, 97, 99, 116, 101, 114]⟩)).1).2) ((Bl.check p0 l0 false (⟨#[99, 104, 97, 114, 97, 99, 116, 101, 114]⟩)).2))), (17, .sat (nT nb (some r) (((Bl.check p0 l0 false (⟨#[99, 104, 97, 114, 97, 99, 116, 101, 114]⟩)).1).1) (((Bl.check p0 l0 false (⟨#[99, 104, 97, 114, 97, 99, 116, 101, 114]⟩)).1).2))), (18, .val (.bool ((Bl.check p0 l0 false (⟨#[99, 104, 97, 114, 97, 99, 116, 101, 114]⟩)).2)))] (by kernel_rfl) rfl rfl hr (stays_cons 1 rfl (away_nP _ _ _ _) (stays_cons 2 rfl (away_val _ _) (stays_cons 990 rfl (away_gP _ _ _) (stays_cons 4 rfl (away_val _ _) (stays_cons 6 rfl (away_nT _ _ _ _) (stays_cons 8 rfl (away_val _ _) (stays_cons 9 rfl (away_val _ _) (stays_cons 10 rfl (away_val _ _) (stays_cons 11 rfl (away_val _ _) (stays_cons 12 rfl (away_val _ _) (stays_cons 13 rfl (away_val _ _) (stays_cons 14 rfl (away_val _ _) (stays_cons 15 rfl (away_val _ _) (stays_cons 16 rfl (away_nT2 _ _ _ _ _) (stays_cons 5 rfl (away_nT2 _ _ _ _ _) (stays_cons 17 rfl (away_nT _ _ _ _) (stays_cons 18 rfl (away_val _ _) (stays_nil _ _)))))))))))))))))) h ?_
  clear h
  intro a w h
  refine env_one (i := 15) (d := 4) (k := .val (.bool ((Bl.check p0 l0 false (⟨#[99, 104, 97, 114, 97, 99, 116, 101, 114]⟩)).2))) (step_assign (by kernel_rfl) (Opd.of_base 18 rfl) rfl) (by kernel_rfl) (by decide) h ?_
  clear h
  intro a w h
  exact hQ a w (h.keep [1, 2, 990, 4, 3])
theorem bChar2a_region {Q : Exit → Act → World → Prop} (p0 : Pay) (l0 : Fo) (nb r : Nat)  {w0 : World} {a : Act} {w : World} (hr : w0.heap.size ≤ r) (h : Hold 27 [(1, .sat (nP 0 (some r) p0 l0)), (2, .val (.int .i64 0)), (990, .sat (gP nb (some r))), (4, .val (.bool false)), (3, .sat (rC nb r (((Bl.check p0 l0 false (⟨#[99, 104, 97, 114, 97, 99, 116, 101, 114]⟩)).1).1) (((Bl.check p0 l0 false (⟨#[99, 104, 97, 114, 97, 99, 116, 101, 114]⟩)).1).2)))] w0 a w)
    (hQ : ∀ a' w', Hold 27 [(1, .sat (nP 0 (some r) p0 l0)), (2, .val (.int .i64 0)), (990, .sat (gP nb (some r))), (4, .val (.bool false)), (3, .sat (rC nb r (((Bl.check p0 l0 false (⟨#[99, 104, 97, 114, 97, 99, 116, 101, 114]⟩)).1).1) (((Bl.check p0 l0 false (⟨#[99, 104, 97, 114, 97, 99, 116, 101, 114]⟩)).1).2))), (20, .val (.bool true))] w0 a' w' → Q .normal a' w') : (Code.region 2 bChar2Ops false).wp Try.prog Q a w := by
  refine region_seq (w0 := w) 2 (by kernel_rfl) ?_
  rw [show List.range 2 = [0, 1] from rfl]
  refine env_one (i := 0) (d := 19) (k := .val (.bool false)) (step_move (by kernel_rfl) (Opd.of_base 4 rfl) rfl) (by kernel_rfl) (by decide) h ?_
  clear h
  intro a w h
  refine env_one (i := 1) (d := 20) (k := .val (.bool true)) (step_not (by kernel_rfl) (Opd.of_base 19 rfl) rfl) (by kernel_rfl) (by decide) h ?_
  clear h
  intro a w h
  exact hQ a w (h.keep [1, 2, 990, 4, 3, 20])
def bChar3aEs (p0 : Pay) (l0 : Fo) (nb r : Nat) : List Kd := [
  .sat (nT nb (some r) (((Bl.check p0 l0 false (⟨#[99, 104, 97, 114, 97, 99, 116, 101, 114]⟩)).1).1) (((Bl.check p0 l0 false (⟨#[99, 104, 97, 114, 97, 99, 116, 101, 114]⟩)).1).2)),
  .val (.int .i64 0)]
def bChar3aDs : List Nat := [21, 2]
def bChar3aEnv (p0 : Pay) (l0 : Fo) (nb r : Nat) : Env := [(1, .sat (nP 0 (some r) p0 l0)), (990, .sat (gP nb (some r))), (4, .val (.bool false)), (3, .sat (rC nb r (((Bl.check p0 l0 false (⟨#[99, 104, 97, 114, 97, 99, 116, 101, 114]⟩)).1).1) (((Bl.check p0 l0 false (⟨#[99, 104, 97, 114, 97, 99, 116, 101, 114]⟩)).1).2)))]
theorem bChar3a_0 {Q : Exit → Act → World → Prop} (p0 : Pay) (l0 : Fo) (nb r : Nat)  : RStep (strip bChar3Ops) Q (fun i => ((bChar3aEs p0 l0 nb r)[i]?).getD .any) (fun i => (bChar3aDs[i]?).getD (1000 + i)) (look (bChar3aEnv p0 l0 nb r)) 27 0 := fun _ => step_cload (by kernel_rfl) (Opd.of_base 3 rfl) rfl
theorem bChar3a_1 {Q : Exit → Act → World → Prop} (p0 : Pay) (l0 : Fo) (nb r : Nat)  : RStep (strip bChar3Ops) Q (fun i => ((bChar3aEs p0 l0 nb r)[i]?).getD .any) (fun i => (bChar3aDs[i]?).getD (1000 + i)) (look (bChar3aEnv p0 l0 nb r)) 27 1 := fun _ => step_assign (by kernel_rfl) (Opd.const _) rfl
theorem bChar3a_region {Q : Exit → Act → World → Prop} (p0 : Pay) (l0 : Fo) (nb r : Nat)  {w0 : World} {a : Act} {w : World} (hr : w0.heap.size ≤ r) (h : Hold 27 [(1, .sat (nP 0 (some r) p0 l0)), (990, .sat (gP nb (some r))), (4, .val (.bool false)), (3, .sat (rC nb r (((Bl.check p0 l0 false (⟨#[99, 104, 97, 114, 97, 99, 116, 101, 114]⟩)).1).1) (((Bl.check p0 l0 false (⟨#[99, 104, 97, 114, 97, 99, 116, 101, 114]⟩)).1).2)))] w0 a w)
    (hQ : ∀ a' w', Hold 27 [(1, .sat (nP 0 (some r) p0 l0)), (990, .sat (gP nb (some r))), (4, .val (.bool false)), (2, .val (.int .i64 0)), (3, .sat (rC nb r (((Bl.check p0 l0 false (⟨#[99, 104, 97, 114, 97, 99, 116, 101, 114]⟩)).1).1) (((Bl.check p0 l0 false (⟨#[99, 104, 97, 114, 97, 99, 116, 101, 114]⟩)).1).2)))] w0 a' w' → Q .normal a' w') : (Code.region 3 bChar3Ops true).wp Try.prog Q a w := by
  have hall : ∀ i, i < 0 → RStep (strip bChar3Ops) Q (fun i => ((bChar3aEs p0 l0 nb r)[i]?).getD .any) (fun i => (bChar3aDs[i]?).getD (1000 + i)) (look (bChar3aEnv p0 l0 nb r)) 27 i := fun i hi => absurd hi (by omega)
  have hall := below_succ hall (bChar3a_0 p0 l0 nb r )
  have hall := below_succ hall (bChar3a_1 p0 l0 nb r )
  refine env_then (m := 2) (n := 4) bChar3aDs (bChar3aEs p0 l0 nb r) rfl (by kernel_rfl) (by decide) (by kernel_rfl) (of_decide_eq_true (by kernel_rfl)) (by kernel_rfl) (by kernel_rfl) (fun i_ hi_ => hall i_ hi_) h fun a w h => ?_
  clear hall
  have h := h.keep [1, 990, 4, 3, 21, 2]
  show wpOps Try.prog _ Q [2, 3] a w
  refine env_store (i := 2) (x := 3) (y := 21) (r := r) [(1, .sat (nP 0 (some r) p0 l0)), (990, .sat (gP nb (some r))), (4, .val (.bool false)), (21, .sat (nT nb (some r) (((Bl.check p0 l0 false (⟨#[99, 104, 97, 114, 97, 99, 116, 101, 114]⟩)).1).1) (((Bl.check p0 l0 false (⟨#[99, 104, 97, 114, 97, 99, 116, 101, 114]⟩)).1).2))), (2, .val (.int .i64 0))] (by kernel_rfl) rfl rfl hr (stays_cons 1 rfl (away_nP _ _ _ _) (stays_cons 990 rfl (away_gP _ _ _) (stays_cons 4 rfl (away_val _ _) (stays_cons 21 rfl (away_nT _ _ _ _) (stays_cons 2 rfl (away_val _ _) (stays_nil _ _)))))) h ?_
  clear h
  intro a w h
  refine env_one (i := 3) (d := 4) (k := .val (.bool false)) (step_assign (by kernel_rfl) (Opd.const _) rfl) (by kernel_rfl) (by decide) h ?_
  clear h
  intro a w h
  exact hQ a w (h.keep [1, 990, 4, 2, 3])
theorem bChar1b_region {Q : Exit → Act → World → Prop} (p0 : Pay) (l0 : Fo) (nb r : Nat) (h1 : p0.1 = 2) {w0 : World} {a : Act} {w : World} (hr : w0.heap.size ≤ r) (h : Hold 27 [(1, .sat (nP 0 (some r) p0 l0)), (2, .val (.int .i64 0)), (3, .sat (rC nb r zp .nil)), (990, .sat (gP nb (some r))), (4, .val (.bool false))] w0 a w)
    (hQ : ∀ a' w', Hold 27 [(1, .sat (nP 0 (some r) p0 l0)), (2, .val (.int .i64 0)), (990, .sat (gP nb (some r))), (4, .val (.bool ((Bl.check p0 l0 ((((p0.2.2).size : Nat) : Int) == 1) (⟨#[99, 104, 97, 114, 97, 99, 116, 101, 114]⟩)).2))), (3, .sat (rC nb r (((Bl.check p0 l0 ((((p0.2.2).size : Nat) : Int) == 1) (⟨#[99, 104, 97, 114, 97, 99, 116, 101, 114]⟩)).1).1) (((Bl.check p0 l0 ((((p0.2.2).size : Nat) : Int) == 1) (⟨#[99, 104, 97, 114, 97, 99, 116, 101, 114]⟩)).1).2)))] w0 a' w' → Q .normal a' w') : (Code.region 1 bChar1Ops false).wp Try.prog Q a w := by
  refine region_seq (w0 := w) 16 (by kernel_rfl) ?_
  rw [show List.range 16 = [0, 1, 2, 3, 4, 5, 6, 7, 8, 9, 10, 11, 12, 13, 14, 15] from rfl]
  refine env_one (i := 0) (d := 6) (k := .sat (nT 0 (some r) p0 l0)) (step_nload (by kernel_rfl) (Opd.of_base 1 rfl) rfl) (by kernel_rfl) (by decide) h ?_
  clear h
  intro a w h
  refine env_one (i := 1) (d := 7) (k := .ptrI (p0.1)) (step_field0 (by kernel_rfl) (Opd.ofP (Opd.of_base 1 rfl)) rfl) (by kernel_rfl) (by decide) h ?_
  clear h
  intro a w h
  refine env_one (i := 2) (d := 8) (k := .val (.int .i64 (p0.1))) (step_load_int3 (by kernel_rfl) (Opd.of_base 7 rfl) rfl) (by kernel_rfl) (by decide) h ?_
  clear h
  intro a w h
  refine env_one (i := 3) (d := 9) (k := .val (.bool true)) (step_eqb_int (m := (p0.1)) (n := 2) (by kernel_rfl) (Opd.of_base 8 rfl) (Opd.const _) (by rw [h1]; simp) rfl) (by kernel_rfl) (by decide) h ?_
  clear h
  intro a w h
  refine env_one (i := 4) (d := 10) (k := .val (.bool true)) (step_move (by kernel_rfl) (Opd.of_base 9 rfl) rfl) (by kernel_rfl) (by decide) h ?_
  clear h
  intro a w h
  refine env_guard (i := 5) (d := 11) (g := 4) (dg := 10) (b := true) (k := .ptrS (p0.2.2)) (step_field2 (by kernel_rfl) (Opd.ofP (Opd.of_base 1 rfl)) rfl) (by kernel_rfl) (by decide) (by kernel_rfl) (by decide) rfl h ?_
  clear h
  intro a w h
  refine env_guard (i := 6) (d := 12) (g := 4) (dg := 10) (b := true) (k := .val (.string (p0.2.2))) (step_load_string (by kernel_rfl) (Opd.of_base 11 rfl) rfl) (by kernel_rfl) (by decide) (by kernel_rfl) (by decide) rfl h ?_
  clear h
  intro a w h
  refine env_guard (i := 7) (d := 13) (g := 4) (dg := 10) (b := true) (k := .val (.int .i64 (((p0.2.2).size : Nat) : Int))) (step_len_str (by kernel_rfl) (Opd.of_base 12 rfl) rfl) (by kernel_rfl) (by decide) (by kernel_rfl) (by decide) rfl h ?_
  clear h
  intro a w h
  refine env_guard (i := 8) (d := 14) (g := 4) (dg := 10) (b := true) (k := .val (.bool ((((p0.2.2).size : Nat) : Int) == 1))) (step_eqb_int (m := (((p0.2.2).size : Nat) : Int)) (n := 1) (by kernel_rfl) (Opd.of_base 13 rfl) (Opd.const _) rfl rfl) (by kernel_rfl) (by decide) (by kernel_rfl) (by decide) rfl h ?_
  clear h
  intro a w h
  refine env_one (i := 9) (d := 15) (k := .val (.bool ((((p0.2.2).size : Nat) : Int) == 1))) (step_pick_yes (y := .const (.bool false)) (by kernel_rfl) (Opd.of_base 10 rfl) (Opd.of_base 14 rfl) rfl) (by kernel_rfl) (by decide) h ?_
  clear h
  intro a w h
  refine env_one (i := 10) (d := 16) (k := .sat (nT2 nb (some r) (((Bl.check p0 l0 ((((p0.2.2).size : Nat) : Int) == 1) (⟨#[99, 104, 97, 114, 97, 99, 116, 101, 114]⟩)).1).1) (((Bl.check p0 l0 ((((p0.2.2).size : Nat) : Int) == 1) (⟨#[99, 104, 97, 114, 97, 99, 116, 101, 114]⟩)).1).2) ((Bl.check p0 l0 ((((p0.2.2).size : Nat) : Int) == 1) (⟨#[99, 104, 97, 114, 97, 99, 116, 101, 114]⟩)).2))) (step_bCheck (g := 990) (by kernel_rfl) (Opd.ofT (Opd.of_base 6 rfl)) (Opd.of_base 15 rfl) (Opd.const _) (Opd.of_base 990 rfl) rfl) (by kernel_rfl) (by decide) h ?_
  clear h
  intro a w h
  refine env_one (i := 11) (d := 5) (k := .sat (nT2 nb (some r) (((Bl.check p0 l0 ((((p0.2.2).size : Nat) : Int) == 1) (⟨#[99, 104, 97, 114, 97, 99, 116, 101, 114]⟩)).1).1) (((Bl.check p0 l0 ((((p0.2.2).size : Nat) : Int) == 1) (⟨#[99, 104, 97, 114, 97, 99, 116, 101, 114]⟩)).1).2) ((Bl.check p0 l0 ((((p0.2.2).size : Nat) : Int) == 1) (⟨#[99, 104, 97, 114, 97, 99, 116, 101, 114]⟩)).2))) (step_move (by kernel_rfl) (Opd.of_base 16 rfl) rfl) (by kernel_rfl) (by decide) h ?_
  clear h
  intro a w h
  refine env_one (i := 12) (d := 17) (k := .sat (nT nb (some r) (((Bl.check p0 l0 ((((p0.2.2).size : Nat) : Int) == 1) (⟨#[99, 104, 97, 114, 97, 99, 116, 101, 114]⟩)).1).1) (((Bl.check p0 l0 ((((p0.2.2).size : Nat) : Int) == 1) (⟨#[99, 104, 97, 114, 97, 99, 116, 101, 114]⟩)).1).2))) (step_nT2_0 (by kernel_rfl) (Opd.of_base 5 rfl) rfl) (by kernel_rfl) (by decide) h ?_
  clear h
  intro a w h
  refine env_one (i := 13) (d := 18) (k := .val (.bool ((Bl.check p0 l0 ((((p0.2.2).size : Nat) : Int) == 1) (⟨#[99, 104, 97, 114, 97, 99, 116, 101, 114]⟩)).2))) (step_nT2_1 (by kernel_rfl) (Opd.of_base 5 rfl) rfl) (by kernel_rfl) (by decide) h ?_
  clear h
  intro a w h
  refine env_store (i := 14) (x := 3) (y := 17) (r := r) [(1, .sat (nP 0 (some r) p0 l0)), (2, .val (.int .i64 0)), (990, .sat (gP nb (some r))), (4, .val (.bool false)), (6, .sat (nT 0 (some r) p0 l0)), (8, .val (.int .i64 (p0.1))), (9, .val (.bool true)), (10, .val (.bool true)), (12, .val (.string (p0.2.2))), (13, .val (.int .i64 (((p0.2.2).size : Nat) : Int))), (14, .val (.bool ((((p0.2.2).size : Nat) : Int) == 1))), (15, .val (.bool ((((p0.2.2).size : Nat) : Int) == 1))), (16, .sat (nT2 nb (some r) (((Bl.check p0 l0 ((((p0.2.2).size : Nat) : Int) == 1) (⟨#[99, 104, 97, 114, 97, 99, 116, 101, 114]⟩)).1).1) (((Bl.check p0 l0 ((((p0.2.2).size : Nat) : Int) == 1) (⟨#[99, 104, 97, 114, 97, 99, 116, 101, 114]⟩)).1).2) ((Bl.check p0 l0 ((((p0.2.2).size : Nat) : Int) == 1) (⟨#[99, 104, 97, 114, 97, 99, 116, 101, 114]⟩)).2))), (5, .sat (nT2 nb (some r) (((Bl.check p0 l0 ((((p0.2.2).size : Nat) : Int) == 1) (⟨#[99, 104, 97, 114, 97, 99, 116, 101, 114]⟩)).1).1) (((Bl.check p0 l0 ((((p0.2.2).size : Nat) : Int) == 1) (⟨#[99, 104, 97, 114, 97, 99, 116, 101, 114]⟩)).1).2) ((Bl.check p0 l0 ((((p0.2.2).size : Nat) : Int) == 1) (⟨#[99, 104, 97, 114, 97, 99, 116, 101, 114]⟩)).2))), (17, .sat (nT nb (some r) (((Bl.check p0 l0 ((((p0.2.2).size : Nat) : Int) == 1) (⟨#[99, 104, 97, 114, 97, 99, 116, 101, 114]⟩)).1).1) (((Bl.check p0 l0 ((((p0.2.2).size : Nat) : Int) == 1) (⟨#[99, 104, 97, 114, 97, 99, 116, 101, 114]⟩)).1).2))), (18, .val (.bool ((Bl.check p0 l0 ((((p0.2.2).size : Nat) : Int) == 1) (⟨#[99, 104, 97, 114, 97, 99, 116, 101, 114]⟩)).2)))] (by kernel_rfl) rfl rfl hr (stays_cons 1 rfl (away_nP _ _ _ _) (stays_cons 2 rfl (away_val _ _) (stays_cons 990 rfl (away_gP _ _ _) (stays_cons 4 rfl (away_val _ _) (stays_cons 6 rfl (away_nT _ _ _ _) (stays_cons 8 rfl (away_val _ _) (stays_cons 9 rfl (away_val _ _) (stays_cons 10 rfl (away_val _ _) (stays_cons 12 rfl (away_val _ _) (stays_cons 13 rfl (away_val _ _) (stays_cons 14 rfl (away_val _ _) (stays_cons 15 rfl (away_val _ _) (stays_cons 16 rfl (away_nT2 _ _ _ _ _) (stays_cons 5 rfl (away_nT2 _ _ _ _ _) (stays_cons 17 rfl (away_nT _ _ _ _) (stays_cons 18 rfl (away_val _ _) (stays_nil _ _))))))))))))))))) h ?_
  clear h
  intro a w h
  refine env_one (i := 15) (d := 4) (k := .val (.bool ((Bl.check p0 l0 ((((p0.2.2).size : Nat) : Int) == 1) (⟨#[99, 104, 97, 114, 97, 99, 116, 101, 114]⟩)).2))) (step_assign (by kernel_rfl) (Opd.of_base 18 rfl) rfl) (by kernel_rfl) (by decide) h ?_
  clear h
  intro a w h
  exact hQ a w (h.keep [1, 2, 990, 4, 3])
theorem bChar2b_region {Q : Exit → Act → World → Prop} (p0 : Pay) (l0 : Fo) (nb r : Nat)  {w0 : World} {a : Act} {w : World} (hr : w0.heap.size ≤ r) (h : Hold 27 [(1, .sat (nP 0 (some r) p0 l0)), (2, .val (.int .i64 0)), (990, .sat (gP nb (some r))), (4, .val (.bool true)), (3, .sat (rC nb r (((Bl.check p0 l0 ((((p0.2.2).size : Nat) : Int) == 1) (⟨#[99, 104, 97, 114, 97, 99, 116, 101, 114]⟩)).1).1) (((Bl.check p0 l0 ((((p0.2.2).size : Nat) : Int) == 1) (⟨#[99, 104, 97, 114, 97, 99, 116, 101, 114]⟩)).1).2)))] w0 a w)
    (hQ : ∀ a' w', Hold 27 [(1, .sat (nP 0 (some r) p0 l0)), (2, .val (.int .i64 0)), (990, .sat (gP nb (some r))), (4, .val (.bool true)), (3, .sat (rC nb r (((Bl.check p0 l0 ((((p0.2.2).size : Nat) : Int) == 1) (⟨#[99, 104, 97, 114, 97, 99, 116, 101, 114]⟩)).1).1) (((Bl.check p0 l0 ((((p0.2.2).size : Nat) : Int) == 1) (⟨#[99, 104, 97, 114, 97, 99, 116, 101, 114]⟩)).1).2))), (20, .val (.bool false))] w0 a' w' → Q .normal a' w') : (Code.region 2 bChar2Ops false).wp Try.prog Q a w := by
  refine region_seq (w0 := w) 2 (by kernel_rfl) ?_
  rw [show List.range 2 = [0, 1] from rfl]
  refine env_one (i := 0) (d := 19) (k := .val (.bool true)) (step_move (by kernel_rfl) (Opd.of_base 4 rfl) rfl) (by kernel_rfl) (by decide) h ?_
  clear h
  intro a w h
  refine env_one (i := 1) (d := 20) (k := .val (.bool false)) (step_not (by kernel_rfl) (Opd.of_base 19 rfl) rfl) (by kernel_rfl) (by decide) h ?_
  clear h
  intro a w h
  exact hQ a w (h.keep [1, 2, 990, 4, 3, 20])
theorem bChar4a_region {Q : Exit → Act → World → Prop} (p0 : Pay) (l0 : Fo) (nb r : Nat) (hs0 : 0 < p0.2.2.size) {w0 : World} {a : Act} {w : World} (hr : w0.heap.size ≤ r) (h : Hold 27 [(1, .sat (nP 0 (some r) p0 l0)), (2, .val (.int .i64 0)), (990, .sat (gP nb (some r))), (4, .val (.bool true)), (3, .sat (rC nb r (((Bl.check p0 l0 ((((p0.2.2).size : Nat) : Int) == 1) (⟨#[99, 104, 97, 114, 97, 99, 116, 101, 114]⟩)).1).1) (((Bl.check p0 l0 ((((p0.2.2).size : Nat) : Int) == 1) (⟨#[99, 104, 97, 114, 97, 99, 116, 101, 114]⟩)).1).2)))] w0 a w)
    (hQ : ∀ a' w', Hold 27 [(2, .val (.int .i64 ((byte0 (p0.2.2) : Nat) : Int))), (990, .sat (gP nb (some r))), (4, .val (.bool true)), (3, .sat (rC nb r zp .nil))] w0 a' w' → Q .normal a' w') : (Code.region 4 bChar4Ops false).wp Try.prog Q a w := by
  refine region_seq (w0 := w) 8 (by kernel_rfl) ?_
  rw [show List.range 8 = [0, 1, 2, 3, 4, 5, 6, 7] from rfl]
  refine env_one (i := 0) (d := 22) (k := .ptrS (p0.2.2)) (step_field2 (by kernel_rfl) (Opd.ofP (Opd.of_base 1 rfl)) rfl) (by kernel_rfl) (by decide) h ?_
  clear h
  intro a w h
  refine env_one (i := 1) (d := 23) (k := .val (.string (p0.2.2))) (step_load_string (by kernel_rfl) (Opd.of_base 22 rfl) rfl) (by kernel_rfl) (by decide) h ?_
  clear h
  intro a w h
  refine env_one (i := 2) (d := 24) (k := .val (.int .u8 ((byte0 (p0.2.2) : Nat) : Int))) (step_byte0 hs0 (by kernel_rfl) (Opd.of_base 23 rfl) rfl) (by kernel_rfl) (by decide) h ?_
  clear h
  intro a w h
  refine env_one (i := 3) (d := 25) (k := .val (.int .i64 ((byte0 (p0.2.2) : Nat) : Int))) (step_conv8 (z := byte0 (p0.2.2)) (byte0_lt _) (by kernel_rfl) (Opd.of_base 24 rfl) rfl) (by kernel_rfl) (by decide) h ?_
  clear h
  intro a w h
  refine env_one (i := 4) (d := 26) (k := .sat (nT nb (some r) zp .nil)) (step_nzero (by kernel_rfl) rfl) (by kernel_rfl) (by decide) h ?_
  clear h
  intro a w h
  refine env_one (i := 5) (d := 2) (k := .val (.int .i64 ((byte0 (p0.2.2) : Nat) : Int))) (step_assign (by kernel_rfl) (Opd.of_base 25 rfl) rfl) (by kernel_rfl) (by decide) h ?_
  clear h
  intro a w h
  refine env_store (i := 6) (x := 3) (y := 26) (r := r) [(1, .sat (nP 0 (some r) p0 l0)), (2, .val (.int .i64 ((byte0 (p0.2.2) : Nat) : Int))), (990, .sat (gP nb (some r))), (4, .val (.bool true)), (23, .val (.string (p0.2.2))), (24, .val (.int .u8 ((byte0 (p0.2.2) : Nat) : Int))), (25, .val (.int .i64 ((byte0 (p0.2.2) : Nat) : Int))), (26, .sat (nT nb (some r) zp .nil))] (by kernel_rfl) rfl rfl hr (stays_cons 1 rfl (away_nP _ _ _ _) (stays_cons 2 rfl (away_val _ _) (stays_cons 990 rfl (away_gP _ _ _) (stays_cons 4 rfl (away_val _ _) (stays_cons 23 rfl (away_val _ _) (stays_cons 24 rfl (away_val _ _) (stays_cons 25 rfl (away_val _ _) (stays_cons 26 rfl (away_nT _ _ _ _) (stays_nil _ _))))))))) h ?_
  clear h
  intro a w h
  refine env_one (i := 7) (d := 4) (k := .val (.bool true)) (step_assign (by kernel_rfl) (Opd.const _) rfl) (by kernel_rfl) (by decide) h ?_
  clear h
  intro a w h
  exact hQ a w (h.keep [2, 990, 4, 3])
theorem bChar2c_region {Q : Exit → Act → World → Prop} (p0 : Pay) (l0 : Fo) (nb r : Nat)  {w0 : World} {a : Act} {w : World} (hr : w0.heap.size ≤ r) (h : Hold 27 [(1, .sat (nP 0 (some r) p0 l0)), (2, .val (.int .i64 0)), (990, .sat (gP nb (some r))), (4, .val (.bool false)), (3, .sat (rC nb r (((Bl.check p0 l0 ((((p0.2.2).size : Nat) : Int) == 1) (⟨#[99, 104, 97, 114, 97, 99, 116, 101, 114]⟩)).1).1) (((Bl.check p0 l0 ((((p0.2.2).size : Nat) : Int) == 1) (⟨#[99, 104, 97, 114, 97, 99, 116, 101, 114]⟩)).1).2)))] w0 a w)
    (hQ : ∀ a' w', Hold 27 [(1, .sat (nP 0 (some r) p0 l0)), (2, .val (.int .i64 0)), (990, .sat (gP nb (some r))), (4, .val (.bool false)), (3, .sat (rC nb r (((Bl.check p0 l0 ((((p0.2.2).size : Nat) : Int) == 1) (⟨#[99, 104, 97, 114, 97, 99, 116, 101, 114]⟩)).1).1) (((Bl.check p0 l0 ((((p0.2.2).size : Nat) : Int) == 1) (⟨#[99, 104, 97, 114, 97, 99, 116, 101, 114]⟩)).1).2))), (20, .val (.bool true))] w0 a' w' → Q .normal a' w') : (Code.region 2 bChar2Ops false).wp Try.prog Q a w := by
  refine region_seq (w0 := w) 2 (by kernel_rfl) ?_
  rw [show List.range 2 = [0, 1] from rfl]
  refine env_one (i := 0) (d := 19) (k := .val (.bool false)) (step_move (by kernel_rfl) (Opd.of_base 4 rfl) rfl) (by kernel_rfl) (by decide) h ?_
  clear h
  intro a w h
  refine env_one (i := 1) (d := 20) (k := .val (.bool true)) (step_not (by kernel_rfl) (Opd.of_base 19 rfl) rfl) (by kernel_rfl) (by decide) h ?_
  clear h
  intro a w h
  exact hQ a w (h.keep [1, 2, 990, 4, 3, 20])
def bChar3bEs (p0 : Pay) (l0 : Fo) (nb r : Nat) : List Kd := [
  .sat (nT nb (some r) (((Bl.check p0 l0 ((((p0.2.2).size : Nat) : Int) == 1) (⟨#[99, 104, 97, 114, 97, 99, 116, 101, 114]⟩)).1).1) (((Bl.check p0 l0 ((((p0.2.2).size : Nat) : Int) == 1) (⟨#[99, 104, 97, 114, 97, 99, 116, 101, 114]⟩)).1).2)),
  .val (.int .i64 0)]
def bChar3bDs : List Nat := [21, 2]
def bChar3bEnv (p0 : Pay) (l0 : Fo) (nb r : Nat) : Env := [(1, .sat (nP 0 (some r) p0 l0)), (990, .sat (gP nb (some r))), (4, .val (.bool false)), (3, .sat (rC nb r (((Bl.check p0 l0 ((((p0.2.2).size : Nat) : Int) == 1) (⟨#[99, 104, 97, 114, 97, 99, 116, 101, 114]⟩)).1).1) (((Bl.check p0 l0 ((((p0.2.2).size : Nat) : Int) == 1) (⟨#[99, 104, 97, 114, 97, 99, 116, 101, 114]⟩)).1).2)))]
theorem bChar3b_0 {Q : Exit → Act → World → Prop} (p0 : Pay) (l0 : Fo) (nb r : Nat)  : RStep (strip bChar3Ops) Q (fun i => ((bChar3bEs p0 l0 nb r)[i]?).getD .any) (fun i => (bChar3bDs[i]?).getD (1000 + i)) (look (bChar3bEnv p0 l0 nb r)) 27 0 := fun _ => step_cload (by kernel_rfl) (Opd.of_base 3 rfl) rfl
theorem bChar3b_1 {Q : Exit → Act → World → Prop} (p0 : Pay) (l0 : Fo) (nb r : Nat)  : RStep (strip bChar3Ops) Q (fun i => ((bChar3bEs p0 l0 nb r)[i]?).getD .any) (fun i => (bChar3bDs[i]?).getD (1000 + i)) (look (bChar3bEnv p0 l0 nb r)) 27 1 := fun _ => step_assign (by kernel_rfl) (Opd.const _) rfl
theorem bChar3b_region {Q : Exit → Act → World → Prop} (p0 : Pay) (l0 : Fo) (nb r : Nat)  {w0 : World} {a : Act} {w : World} (hr : w0.heap.size ≤ r) (h : Hold 27 [(1, .sat (nP 0 (some r) p0 l0)), (990, .sat (gP nb (some r))), (4, .val (.bool false)), (3, .sat (rC nb r (((Bl.check p0 l0 ((((p0.2.2).size : Nat) : Int) == 1) (⟨#[99, 104, 97, 114, 97, 99, 116, 101, 114]⟩)).1).1) (((Bl.check p0 l0 ((((p0.2.2).size : Nat) : Int) == 1) (⟨#[99, 104, 97, 114, 97, 99, 116, 101, 114]⟩)).1).2)))] w0 a w)
    (hQ : ∀ a' w', Hold 27 [(1, .sat (nP 0 (some r) p0 l0)), (990, .sat (gP nb (some r))), (4, .val (.bool false)), (2, .val (.int .i64 0)), (3, .sat (rC nb r (((Bl.check p0 l0 ((((p0.2.2).size : Nat) : Int) == 1) (⟨#[99, 104, 97, 114, 97, 99, 116, 101, 114]⟩)).1).1) (((Bl.check p0 l0 ((((p0.2.2).size : Nat) : Int) == 1) (⟨#[99, 104, 97, 114, 97, 99, 116, 101, 114]⟩)).1).2)))] w0 a' w' → Q .normal a' w') : (Code.region 3 bChar3Ops true).wp Try.prog Q a w := by
  have hall : ∀ i, i < 0 → RStep (strip bChar3Ops) Q (fun i => ((bChar3bEs p0 l0 nb r)[i]?).getD .any) (fun i => (bChar3bDs[i]?).getD (1000 + i)) (look (bChar3bEnv p0 l0 nb r)) 27 i := fun i hi => absurd hi (by omega)
  have hall := below_succ hall (bChar3b_0 p0 l0 nb r )
  have hall := below_succ hall (bChar3b_1 p0 l0 nb r )
  refine env_then (m := 2) (n := 4) bChar3bDs (bChar3bEs p0 l0 nb r) rfl (by kernel_rfl) (by decide) (by kernel_rfl) (of_decide_eq_true (by kernel_rfl)) (by kernel_rfl) (by kernel_rfl) (fun i_ hi_ => hall i_ hi_) h fun a w h => ?_
  clear hall
  have h := h.keep [1, 990, 4, 3, 21, 2]
  show wpOps Try.prog _ Q [2, 3] a w
  refine env_store (i := 2) (x := 3) (y := 21) (r := r) [(1, .sat (nP 0 (some r) p0 l0)), (990, .sat (gP nb (some r))), (4, .val (.bool false)), (21, .sat (nT nb (some r) (((Bl.check p0 l0 ((((p0.2.2).size : Nat) : Int) == 1) (⟨#[99, 104, 97, 114, 97, 99, 116, 101, 114]⟩)).1).1) (((Bl.check p0 l0 ((((p0.2.2).size : Nat) : Int) == 1) (⟨#[99, 104, 97, 114, 97, 99, 116, 101, 114]⟩)).1).2))), (2, .val (.int .i64 0))] (by kernel_rfl) rfl rfl hr (stays_cons 1 rfl (away_nP _ _ _ _) (stays_cons 990 rfl (away_gP _ _ _) (stays_cons 4 rfl (away_val _ _) (stays_cons 21 rfl (away_nT _ _ _ _) (stays_cons 2 rfl (away_val _ _) (stays_nil _ _)))))) h ?_
  clear h
  intro a w h
  refine env_one (i := 3) (d := 4) (k := .val (.bool false)) (step_assign (by kernel_rfl) (Opd.const _) rfl) (by kernel_rfl) (by decide) h ?_
  clear h
  intro a w h
  exact hQ a w (h.keep [1, 990, 4, 2, 3])
set_option maxHeartbeats 1000000 in
theorem bChar_any (p0 : Pay) (l0 : Fo) (A0 : Option Addr) (c0 : Nat) (B : Nat) (w : World) (hA0 : ArgsB w B A0 (Tm.len l0) l0) (hB : B ≤ w.heap.size)  : Calls Try.prog 45 #[tv p0 A0 (Tm.len l0) c0] w (MkXB w.heap.size (.int .i64 (Bl.char p0 l0).1) ((Bl.char p0 l0).2.1).1 ((Bl.char p0 l0).2.1).2 ((Bl.char p0 l0).2.2) w) := by
  refine calls_of_wp Try.func45 bChar_body ?_
  obtain ⟨v0, hv0⟩ : ∃ v : Value, v = tv p0 A0 (Tm.len l0) c0 := ⟨_, rfl⟩
  rw [← hv0]
  have hk0 : (Kd.term p0 l0).R v0 w := by rw [hv0]; exact ⟨A0, c0, rfl, hA0.up hB⟩
  have hsN : (#[v0] ++ Array.replicate (Try.f45.ntmps - #[v0].size) undef : Array Value).size = 27 := by kernel_rfl
  have gs0 : (#[v0] ++ Array.replicate (Try.f45.ntmps - #[v0].size) undef : Array Value).getD 0 undef = v0 := by kernel_rfl
  generalize (#[v0] ++ Array.replicate (Try.f45.ntmps - #[v0].size) undef : Array Value) = tm at hsN gs0 ⊢
  obtain ⟨a, ha0⟩ : ∃ a : Act, a = ⟨tm, []⟩ := ⟨_, rfl⟩
  have h : Hold 27 [(0, .term p0 l0)] w ⟨tm, []⟩ w := ⟨hsN, rfl, Below.refl _ _, (slots_cons 0 (by rw [gs0]; exact hk0) slots_nil)⟩
  obtain ⟨nb, hnb⟩ : ∃ nb, nb = w.heap.size := ⟨_, rfl⟩
  have hn : nb ≤ w.heap.size := by omega
  refine wp_seq ?_
  refine bChar0a_region p0 l0 nb  hn h ?_
  intro r a w1 hr h
  show Code.wp _ _ _ a w1
  refine wp_seq ?_
  by_cases h1 : p0.1 = 2
  rotate_left
  · have h1b : (p0.1 == 2) = false := by simpa using h1
    refine bChar1a_region p0 l0 nb r h1 hr h ?_
    intro a w1 h
    show Code.wp _ _ _ a w1
    refine wp_seq ?_
    refine wp_seq ?_
    have hc : ((Bl.check p0 l0 false (⟨#[99, 104, 97, 114, 97, 99, 116, 101, 114]⟩)).2) = false := Bl.check_no _ _ _
    rw [hc] at h
    refine bChar2a_region p0 l0 nb r  hr h ?_
    intro a w1 h
    show Code.wp _ _ _ a w1
    refine env_cond (b := true) rfl h ?_
    have h := h.keep [1, 2, 990, 4, 3]
    show Code.wp _ _ _ a w1
    refine wp_seq ?_
    have h := h.keep [1, 990, 4, 3]
    refine bChar3a_region p0 l0 nb r  hr h ?_
    intro a w1 h
    show Code.wp _ _ _ a w1
    have ev : Bl.char p0 l0 = (0, ((((Bl.check p0 l0 false (⟨#[99, 104, 97, 114, 97, 99, 116, 101, 114]⟩)).1).1, ((Bl.check p0 l0 false (⟨#[99, 104, 97, 114, 97, 99, 116, 101, 114]⟩)).1).2), false)) := by simp [Bl.char, Bl.isCh, h1b, hc]
    rw [ev]
    refine wp_ret ?_
    (try simp only [then_ret, block_ret])
    exact law_xcb rfl (h.get 2 rfl) (h.get 4 rfl) (h.get 3 rfl) h.defers fun A c ha => ⟨A, c, rfl, ha.mono fun b hb => ⟨by have := hb.1; omega, hb.2.1⟩, h.world⟩
  · have h1b : (p0.1 == 2) = true := by rw [h1]; rfl
    refine bChar1b_region p0 l0 nb r h1 hr h ?_
    intro a w1 h
    show Code.wp _ _ _ a w1
    refine wp_seq ?_
    refine wp_seq ?_
    rcases Bool.eq_false_or_eq_true ((Bl.check p0 l0 ((((p0.2.2).size : Nat) : Int) == 1) (⟨#[99, 104, 97, 114, 97, 99, 116, 101, 114]⟩)).2) with hc | hc
    · rw [hc] at h
      refine bChar2b_region p0 l0 nb r  hr h ?_
      intro a w1 h
      show Code.wp _ _ _ a w1
      refine env_cond (b := false) rfl h ?_
      refine wp_skip ?_
      have h := h.keep [1, 2, 990, 4, 3]
      show Code.wp _ _ _ a w1
      refine wp_seq ?_
      have hs0 : 0 < p0.2.2.size := by
        have := (Bl.check_ok hc).1
        simp at this
        omega
      refine bChar4a_region p0 l0 nb r hs0 hr h ?_
      intro a w1 h
      show Code.wp _ _ _ a w1
      have ev : Bl.char p0 l0 = (((byte0 (p0.2.2) : Nat) : Int), ((zp, .nil), true)) := by simp [Bl.char, Bl.isCh, h1b, hc]
      rw [ev]
      refine wp_ret ?_
      (try simp only [then_ret, block_ret])
      exact law_xcb rfl (h.get 2 rfl) (h.get 4 rfl) (h.get 3 rfl) h.defers fun A c ha => ⟨A, c, rfl, ha.mono fun b hb => ⟨by have := hb.1; omega, hb.2.1⟩, h.world⟩
    · rw [hc] at h
      refine bChar2c_region p0 l0 nb r  hr h ?_
      intro a w1 h
      show Code.wp _ _ _ a w1
      refine env_cond (b := true) rfl h ?_
      have h := h.keep [1, 2, 990, 4, 3]
      show Code.wp _ _ _ a w1
      refine wp_seq ?_
      have h := h.keep [1, 990, 4, 3]
      refine bChar3b_region p0 l0 nb r  hr h ?_
      intro a w1 h
      show Code.wp _ _ _ a w1
      have ev : Bl.char p0 l0 = (0, ((((Bl.check p0 l0 ((((p0.2.2).size : Nat) : Int) == 1) (⟨#[99, 104, 97, 114, 97, 99, 116, 101, 114]⟩)).1).1, ((Bl.check p0 l0 ((((p0.2.2).size : Nat) : Int) == 1) (⟨#[99, 104, 97, 114, 97, 99, 116, 101, 114]⟩)).1).2), false)) := by simp [Bl.char, Bl.isCh, h1b, hc]
      rw [ev]
      refine wp_ret ?_
      (try simp only [then_ret, block_ret])
      exact law_xcb rfl (h.get 2 rfl) (h.get 4 rfl) (h.get 3 rfl) h.defers fun A c ha => ⟨A, c, rfl, ha.mono fun b hb => ⟨by have := hb.1; omega, hb.2.1⟩, h.world⟩
section
variable {ops : Array Oper} {Q : Exit → Act → World → Prop} {E : Nat → Kd} {D : Nat → Nat} {base : Nat → Option Kd} {N : Nat}
theorem step_bChar {i : Nat} {n g : Nat} {G : Option Nat} {x0 : Operand} {p0 : Pay} {l0 : Fo} (hop : (ops[i]?).map (·.op) = some (.call { callee := .value (.func 45), args := #[x0], argTypes := #[24] })) (h0 : Opd ops E D base N i x0 (.term p0 l0)) (hg : Opd ops E D base N i (.tmp g) (.sat (gP n G))) (hE : E i = .sat (nT3 n G (.int .i64 (Bl.char p0 l0).1) ((Bl.char p0 l0).2.1).1 ((Bl.char p0 l0).2.1).2 ((Bl.char p0 l0).2.2))) : Step Try.prog ops Q E D base N i :=
  step_mkXB hop (fun _ _ => by kernel_rfl) hg (fun a w h => by
    obtain ⟨A0, c0, e0, ha0⟩ := h0 a w h
    rw [show (#[x0] : Array Operand).map a.eval = #[tv p0 A0 (Tm.len l0) c0] by rw [← e0]; simp]
    exact bChar_any p0 l0 A0 c0 w.heap.size w ha0 (Nat.le_refl _)) hE
end
noncomputable def bCode0Ops : Array Oper := ((Try.f47.body).bind (findReg 0)).getD #[]
noncomputable def bCode1Ops : Array Oper := ((Try.f47.body).bind (findReg 1)).getD #[]
noncomputable def bCode2Ops : Array Oper := ((Try.f47.body).bind (findReg 2)).getD #[]
noncomputable def bCode3Ops : Array Oper := ((Try.f47.body).bind (findReg 3)).getD #[]
noncomputable def bCode4Ops : Array Oper := ((Try.f47.body).bind (findReg 4)).getD #[]
noncomputable def bCode5Ops : Array Oper := ((Try.f47.body).bind (findReg 5)).getD #[]
noncomputable def bCode6Ops : Array Oper := ((Try.f47.body).bind (findReg 6)).getD #[]
theorem bCode_body : Try.f47.body = some (.seq (.region 0 bCode0Ops false) (.seq (.region 1 bCode1Ops false) (.seq (.block 0 (.seq (.region 2 bCode2Ops false) (.cond (.tmp 12) (.seq (.region 3 bCode3Ops true) .ret) (.seq (.region 4 bCode4Ops false) (.cond (.tmp 16) (.seq (.region 5 bCode5Ops false) .ret) .skip))))) (.seq (.region 6 bCode6Ops false) .ret)))) := by kernel_rfl
theorem bCode0a_region {Q : Exit → Act → World → Prop} (p0 : Pay) (l0 : Fo) (nb : Nat)  {w0 : World} {a : Act} {w : World} (hn : nb ≤ w0.heap.size) (h : Hold 26 [(0, .term p0 l0)] w0 a w)
    (hQ : ∀ r a' w', w0.heap.size ≤ r → Hold 26 [(1, .sat (nP 0 (some r) p0 l0)), (2, .val (.int .i64 0)), (3, .sat (rC nb r zp .nil)), (990, .sat (gP nb (some r))), (4, .val (.bool false))] w0 a' w' → Q .normal a' w') : (Code.region 0 bCode0Ops false).wp Try.prog Q a w := by
  refine region_seq (w0 := w) 4 (by kernel_rfl) ?_
  rw [show List.range 4 = [0, 1, 2, 3] from rfl]
  refine env_one (i := 0) (d := 1) (k := .ptrT p0 l0) (step_box (by kernel_rfl) (Opd.of_base 0 rfl) rfl) (by kernel_rfl) (by decide) h ?_
  clear h
  intro a w h
  refine env_one (i := 1) (d := 2) (k := .val (.int .i64 0)) (step_assign (by kernel_rfl) (Opd.const _) rfl) (by kernel_rfl) (by decide) h ?_
  clear h
  intro a w h
  refine env_res (i := 2) (d := 3) (n := nb) (fun r => [(0, .sat (nT 0 (some r) p0 l0)), (1, .sat (nP 0 (some r) p0 l0)), (2, .val (.int .i64 0))]) (by kernel_rfl) (by decide) (by decide) hn (fun r => (goes_cons 0 rfl (turns_term _ _ _) (goes_cons 1 rfl (turns_ptr _ _ _) (goes_cons 2 rfl (turns_val _ _) (goes_nil _ _))))) h ?_
  clear h
  intro r a w hr h
  refine env_one (i := 3) (d := 4) (k := .val (.bool false)) (step_assign (by kernel_rfl) (Opd.const _) rfl) (by kernel_rfl) (by decide) h ?_
  clear h
  intro a w h
  exact hQ r a w hr (h.keep [1, 2, 3, 990, 4])
theorem bCode1a_region {Q : Exit → Act → World → Prop} (p0 : Pay) (l0 : Fo) (nb r : Nat)  {w0 : World} {a : Act} {w : World} (hr : w0.heap.size ≤ r) (h : Hold 26 [(1, .sat (nP 0 (some r) p0 l0)), (2, .val (.int .i64 0)), (3, .sat (rC nb r zp .nil)), (990, .sat (gP nb (some r))), (4, .val (.bool false))] w0 a w)
    (hQ : ∀ a' w', Hold 26 [(2, .val (.int .i64 0)), (990, .sat (gP nb (some r))), (4, .val (.bool ((Bl.int p0 l0).2.2))), (5, .val (.int .i64 (Bl.int p0 l0).1)), (3, .sat (rC nb r (((Bl.int p0 l0).2.1).1) (((Bl.int p0 l0).2.1).2)))] w0 a' w' → Q .normal a' w') : (Code.region 1 bCode1Ops false).wp Try.prog Q a w := by
  refine region_seq (w0 := w) 9 (by kernel_rfl) ?_
  rw [show List.range 9 = [0, 1, 2, 3, 4, 5, 6, 7, 8] from rfl]
  refine env_one (i := 0) (d := 7) (k := .sat (nT 0 (some r) p0 l0)) (step_nload (by kernel_rfl) (Opd.of_base 1 rfl) rfl) (by kernel_rfl) (by decide) h ?_
  clear h
  intro a w h
  refine env_one (i := 1) (d := 8) (k := .sat (nT3 nb (some r) (.int .i64 (Bl.int p0 l0).1) (((Bl.int p0 l0).2.1).1) (((Bl.int p0 l0).2.1).2) ((Bl.int p0 l0).2.2))) (step_bInt (g := 990) (by kernel_rfl) (Opd.ofT (Opd.of_base 7 rfl)) (Opd.of_base 990 rfl) rfl) (by kernel_rfl) (by decide) h ?_
  clear h
  intro a w h
  refine env_one (i := 2) (d := 6) (k := .sat (nT3 nb (some r) (.int .i64 (Bl.int p0 l0).1) (((Bl.int p0 l0).2.1).1) (((Bl.int p0 l0).2.1).2) ((Bl.int p0 l0).2.2))) (step_move (by kernel_rfl) (Opd.of_base 8 rfl) rfl) (by kernel_rfl) (by decide) h ?_
  clear h
  intro a w h
  refine env_one (i := 3) (d := 9) (k := .val (.int .i64 (Bl.int p0 l0).1)) (step_nT3_0 (by kernel_rfl) (Opd.of_base 6 rfl) rfl) (by kernel_rfl) (by decide) h ?_
  clear h
  intro a w h
  refine env_one (i := 4) (d := 10) (k := .sat (nT nb (some r) (((Bl.int p0 l0).2.1).1) (((Bl.int p0 l0).2.1).2))) (step_nT3_1 (by kernel_rfl) (Opd.of_base 6 rfl) rfl) (by kernel_rfl) (by decide) h ?_
  clear h
  intro a w h
  refine env_one (i := 5) (d := 11) (k := .val (.bool ((Bl.int p0 l0).2.2))) (step_nT3_2 (by kernel_rfl) (Opd.of_base 6 rfl) rfl) (by kernel_rfl) (by decide) h ?_
  clear h
  intro a w h
  refine env_one (i := 6) (d := 5) (k := .val (.int .i64 (Bl.int p0 l0).1)) (step_assign (by kernel_rfl) (Opd.of_base 9 rfl) rfl) (by kernel_rfl) (by decide) h ?_
  clear h
  intro a w h
  refine env_store (i := 7) (x := 3) (y := 10) (r := r) [(1, .sat (nP 0 (some r) p0 l0)), (2, .val (.int .i64 0)), (990, .sat (gP nb (some r))), (4, .val (.bool false)), (7, .sat (nT 0 (some r) p0 l0)), (8, .sat (nT3 nb (some r) (.int .i64 (Bl.int p0 l0).1) (((Bl.int p0 l0).2.1).1) (((Bl.int p0 l0).2.1).2) ((Bl.int p0 l0).2.2))), (6, .sat (nT3 nb (some r) (.int .i64 (Bl.int p0 l0).1) (((Bl.int p0 l0).2.1).1) (((Bl.int p0 l0).2.1).2) ((Bl.int p0 l0).2.2))), (9, .val (.int .i64 (Bl.int p0 l0).1)), (10, .sat (nT nb (some r) (((Bl.int p0 l0).2.1).1) (((Bl.int p0 l0).2.1).2))), (11, .val (.bool ((Bl.int p0 l0).2.2))), (5, .val (.int .i64 (Bl.int p0 l0).1))] (by kernel_rfl) rfl rfl hr (stays_cons 1 rfl (away_nP _ _ _ _) (stays_cons 2 rfl (away_val _ _) (stays_cons 990 rfl (away_gP _ _ _) (stays_cons 4 rfl (away_val _ _) (stays_cons 7 rfl (away_nT _ _ _ _) (stays_cons 8 rfl (away_nT3 _ _ _ _ _ _) (stays_cons 6 rfl (away_nT3 _ _ _ _ _ _) (stays_cons 9 rfl (away_val _ _) (stays_cons 10 rfl (away_nT _ _ _ _) (stays_cons 11 rfl (away_val _ _) (stays_cons 5 rfl (away_val _ _) (stays_nil _ _)))))))))))) h ?_
  clear h
  intro a w h
  refine env_one (i := 8) (d := 4) (k := .val (.bool ((Bl.int p0 l0).2.2))) (step_assign (by kernel_rfl) (Opd.of_base 11 rfl) rfl) (by kernel_rfl) (by decide) h ?_
  clear h
  intro a w h
  exact hQ a w (h.keep [2, 990, 4, 5, 3])
theorem bCode2a_region {Q : Exit → Act → World → Prop} (p0 : Pay) (l0 : Fo) (nb r : Nat)  {w0 : World} {a : Act} {w : World} (hr : w0.heap.size ≤ r) (h : Hold 26 [(2, .val (.int .i64 0)), (990, .sat (gP nb (some r))), (4, .val (.bool true)), (5, .val (.int .i64 (Bl.int p0 l0).1)), (3, .sat (rC nb r (((Bl.int p0 l0).2.1).1) (((Bl.int p0 l0).2.1).2)))] w0 a w)
    (hQ : ∀ a' w', Hold 26 [(2, .val (.int .i64 0)), (990, .sat (gP nb (some r))), (4, .val (.bool true)), (5, .val (.int .i64 (Bl.int p0 l0).1)), (3, .sat (rC nb r (((Bl.int p0 l0).2.1).1) (((Bl.int p0 l0).2.1).2))), (12, .val (.bool false))] w0 a' w' → Q .normal a' w') : (Code.region 2 bCode2Ops false).wp Try.prog Q a w := by
  refine region_seq (w0 := w) 3 (by kernel_rfl) ?_
  rw [show List.range 3 = [0, 1, 2] from rfl]
  refine env_one (i := 0) (d := 13) (k := .val (.bool true)) (step_move (by kernel_rfl) (Opd.of_base 4 rfl) rfl) (by kernel_rfl) (by decide) h ?_
  clear h
  intro a w h
  refine env_one (i := 1) (d := 14) (k := .val (.bool false)) (step_not (by kernel_rfl) (Opd.of_base 13 rfl) rfl) (by kernel_rfl) (by decide) h ?_
  clear h
  intro a w h
  refine env_one (i := 2) (d := 12) (k := .val (.bool false)) (step_assign (by kernel_rfl) (Opd.of_base 14 rfl) rfl) (by kernel_rfl) (by decide) h ?_
  clear h
  intro a w h
  exact hQ a w (h.keep [2, 990, 4, 5, 3, 12])
theorem bCode4a_region {Q : Exit → Act → World → Prop} (p0 : Pay) (l0 : Fo) (nb r : Nat) (h1 : ¬ (Bl.int p0 l0).1 < 0) (h2 : ¬ 255 < (Bl.int p0 l0).1) {w0 : World} {a : Act} {w : World} (hr : w0.heap.size ≤ r) (h : Hold 26 [(2, .val (.int .i64 0)), (990, .sat (gP nb (some r))), (4, .val (.bool true)), (5, .val (.int .i64 (Bl.int p0 l0).1)), (3, .sat (rC nb r (((Bl.int p0 l0).2.1).1) (((Bl.int p0 l0).2.1).2)))] w0 a w)
    (hQ : ∀ a' w', Hold 26 [(2, .val (.int .i64 0)), (990, .sat (gP nb (some r))), (4, .val (.bool true)), (5, .val (.int .i64 (Bl.int p0 l0).1)), (3, .sat (rC nb r (((Bl.int p0 l0).2.1).1) (((Bl.int p0 l0).2.1).2))), (16, .val (.bool false))] w0 a' w' → Q .normal a' w') : (Code.region 4 bCode4Ops false).wp Try.prog Q a w := by
  refine region_seq (w0 := w) 7 (by kernel_rfl) ?_
  rw [show List.range 7 = [0, 1, 2, 3, 4, 5, 6] from rfl]
  refine env_one (i := 0) (d := 17) (k := .val (.int .i64 (Bl.int p0 l0).1)) (step_move (by kernel_rfl) (Opd.of_base 5 rfl) rfl) (by kernel_rfl) (by decide) h ?_
  clear h
  intro a w h
  refine env_one (i := 1) (d := 18) (k := .val (.bool false)) (step_lt_int64 (m := (Bl.int p0 l0).1) (n := 0) (by kernel_rfl) (Opd.of_base 17 rfl) (Opd.const _) (decide_eq_false h1) rfl) (by kernel_rfl) (by decide) h ?_
  clear h
  intro a w h
  refine env_one (i := 2) (d := 19) (k := .val (.bool false)) (step_move (by kernel_rfl) (Opd.of_base 18 rfl) rfl) (by kernel_rfl) (by decide) h ?_
  clear h
  intro a w h
  refine env_guard (i := 3) (d := 20) (g := 2) (dg := 19) (b := false) (k := .val (.int .i64 (Bl.int p0 l0).1)) (step_move (by kernel_rfl) (Opd.of_base 5 rfl) rfl) (by kernel_rfl) (by decide) (by kernel_rfl) (by decide) rfl h ?_
  clear h
  intro a w h
  refine env_guard (i := 4) (d := 21) (g := 2) (dg := 19) (b := false) (k := .val (.bool false)) (step_gt_int64 (m := (Bl.int p0 l0).1) (n := 255) (by kernel_rfl) (Opd.of_base 20 rfl) (Opd.const _) (decide_eq_false h2) rfl) (by kernel_rfl) (by decide) (by kernel_rfl) (by decide) rfl h ?_
  clear h
  intro a w h
  refine env_one (i := 5) (d := 22) (k := .val (.bool false)) (step_pick_no (x := .const (.bool true)) (by kernel_rfl) (Opd.of_base 19 rfl) (Opd.of_base 21 rfl) rfl) (by kernel_rfl) (by decide) h ?_
  clear h
  intro a w h
  refine env_one (i := 6) (d := 16) (k := .val (.bool false)) (step_assign (by kernel_rfl) (Opd.of_base 22 rfl) rfl) (by kernel_rfl) (by decide) h ?_
  clear h
  intro a w h
  exact hQ a w (h.keep [2, 990, 4, 5, 3, 16])
theorem bCode6a_region {Q : Exit → Act → World → Prop} (p0 : Pay) (l0 : Fo) (nb r : Nat)  {w0 : World} {a : Act} {w : World} (hr : w0.heap.size ≤ r) (h : Hold 26 [(2, .val (.int .i64 0)), (990, .sat (gP nb (some r))), (4, .val (.bool true)), (5, .val (.int .i64 (Bl.int p0 l0).1)), (3, .sat (rC nb r (((Bl.int p0 l0).2.1).1) (((Bl.int p0 l0).2.1).2)))] w0 a w)
    (hQ : ∀ a' w', Hold 26 [(2, .val (.int .i64 (Bl.int p0 l0).1)), (990, .sat (gP nb (some r))), (4, .val (.bool true)), (3, .sat (rC nb r zp .nil))] w0 a' w' → Q .normal a' w') : (Code.region 6 bCode6Ops false).wp Try.prog Q a w := by
  refine region_seq (w0 := w) 5 (by kernel_rfl) ?_
  rw [show List.range 5 = [0, 1, 2, 3, 4] from rfl]
  refine env_one (i := 0) (d := 24) (k := .val (.int .i64 (Bl.int p0 l0).1)) (step_move (by kernel_rfl) (Opd.of_base 5 rfl) rfl) (by kernel_rfl) (by decide) h ?_
  clear h
  intro a w h
  refine env_one (i := 1) (d := 25) (k := .sat (nT nb (some r) zp .nil)) (step_nzero (by kernel_rfl) rfl) (by kernel_rfl) (by decide) h ?_
  clear h
  intro a w h
  refine env_one (i := 2) (d := 2) (k := .val (.int .i64 (Bl.int p0 l0).1)) (step_assign (by kernel_rfl) (Opd.of_base 24 rfl) rfl) (by kernel_rfl) (by decide) h ?_
  clear h
  intro a w h
  refine env_store (i := 3) (x := 3) (y := 25) (r := r) [(2, .val (.int .i64 (Bl.int p0 l0).1)), (990, .sat (gP nb (some r))), (4, .val (.bool true)), (5, .val (.int .i64 (Bl.int p0 l0).1)), (24, .val (.int .i64 (Bl.int p0 l0).1)), (25, .sat (nT nb (some r) zp .nil))] (by kernel_rfl) rfl rfl hr (stays_cons 2 rfl (away_val _ _) (stays_cons 990 rfl (away_gP _ _ _) (stays_cons 4 rfl (away_val _ _) (stays_cons 5 rfl (away_val _ _) (stays_cons 24 rfl (away_val _ _) (stays_cons 25 rfl (away_nT _ _ _ _) (stays_nil _ _))))))) h ?_
  clear h
  intro a w h
  refine env_one (i := 4) (d := 4) (k := .val (.bool true)) (step_assign (by kernel_rfl) (Opd.const _) rfl) (by kernel_rfl) (by decide) h ?_
  clear h
  intro a w h
  exact hQ a w (h.keep [2, 990, 4, 3])
theorem bCode4b_region {Q : Exit → Act → World → Prop} (p0 : Pay) (l0 : Fo) (nb r : Nat) (h1 : (Bl.int p0 l0).1 < 0) {w0 : World} {a : Act} {w : World} (hr : w0.heap.size ≤ r) (h : Hold 26 [(2, .val (.int .i64 0)), (990, .sat (gP nb (some r))), (4, .val (.bool true)), (5, .val (.int .i64 (Bl.int p0 l0).1)), (3, .sat (rC nb r (((Bl.int p0 l0).2.1).1) (((Bl.int p0 l0).2.1).2)))] w0 a w)
    (hQ : ∀ a' w', Hold 26 [(2, .val (.int .i64 0)), (990, .sat (gP nb (some r))), (4, .val (.bool true)), (5, .val (.int .i64 (Bl.int p0 l0).1)), (3, .sat (rC nb r (((Bl.int p0 l0).2.1).1) (((Bl.int p0 l0).2.1).2))), (16, .val (.bool true))] w0 a' w' → Q .normal a' w') : (Code.region 4 bCode4Ops false).wp Try.prog Q a w := by
  refine region_seq (w0 := w) 7 (by kernel_rfl) ?_
  rw [show List.range 7 = [0, 1, 2, 3, 4, 5, 6] from rfl]
  refine env_one (i := 0) (d := 17) (k := .val (.int .i64 (Bl.int p0 l0).1)) (step_move (by kernel_rfl) (Opd.of_base 5 rfl) rfl) (by kernel_rfl) (by decide) h ?_
  clear h
  intro a w h
  refine env_one (i := 1) (d := 18) (k := .val (.bool true)) (step_lt_int64 (m := (Bl.int p0 l0).1) (n := 0) (by kernel_rfl) (Opd.of_base 17 rfl) (Opd.const _) (decide_eq_true h1) rfl) (by kernel_rfl) (by decide) h ?_
  clear h
  intro a w h
  refine env_one (i := 2) (d := 19) (k := .val (.bool true)) (step_move (by kernel_rfl) (Opd.of_base 18 rfl) rfl) (by kernel_rfl) (by decide) h ?_
  clear h
  intro a w h
  refine env_skip (i := 3) (d := 20) (g := 2) (dg := 19) (b := false) (by kernel_rfl) (by decide) (by kernel_rfl) rfl rfl h ?_
  clear h
  intro a w h
  refine env_skip (i := 4) (d := 21) (g := 2) (dg := 19) (b := false) (by kernel_rfl) (by decide) (by kernel_rfl) rfl rfl h ?_
  clear h
  intro a w h
  refine env_one (i := 5) (d := 22) (k := .val (.bool true)) (step_pick_yes (y := .tmp 21) (by kernel_rfl) (Opd.of_base 19 rfl) (Opd.const _) rfl) (by kernel_rfl) (by decide) h ?_
  clear h
  intro a w h
  refine env_one (i := 6) (d := 16) (k := .val (.bool true)) (step_assign (by kernel_rfl) (Opd.of_base 22 rfl) rfl) (by kernel_rfl) (by decide) h ?_
  clear h
  intro a w h
  exact hQ a w (h.keep [2, 990, 4, 5, 3, 16])
theorem bCode5a_region {Q : Exit → Act → World → Prop} (p0 : Pay) (l0 : Fo) (nb r : Nat)  {w0 : World} {a : Act} {w : World} (hr : w0.heap.size ≤ r) (h : Hold 26 [(2, .val (.int .i64 0)), (990, .sat (gP nb (some r))), (4, .val (.bool true)), (5, .val (.int .i64 (Bl.int p0 l0).1)), (3, .sat (rC nb r (((Bl.int p0 l0).2.1).1) (((Bl.int p0 l0).2.1).2)))] w0 a w)
    (hQ : ∀ a' w', Hold 26 [(2, .val (.int .i64 0)), (990, .sat (gP nb (some r))), (4, .val (.bool false)), (5, .val (.int .i64 (Bl.int p0 l0).1)), (3, .sat (rC nb r ((Bl.rep (⟨#[99, 104, 97, 114, 97, 99, 116, 101, 114, 95, 99, 111, 100, 101]⟩)).1) ((Bl.rep (⟨#[99, 104, 97, 114, 97, 99, 116, 101, 114, 95, 99, 111, 100, 101]⟩)).2)))] w0 a' w' → Q .normal a' w') : (Code.region 5 bCode5Ops false).wp Try.prog Q a w := by
  refine region_seq (w0 := w) 4 (by kernel_rfl) ?_
  rw [show List.range 4 = [0, 1, 2, 3] from rfl]
  refine env_one (i := 0) (d := 23) (k := .sat (nT nb (some r) ((Bl.rep (⟨#[99, 104, 97, 114, 97, 99, 116, 101, 114, 95, 99, 111, 100, 101]⟩)).1) ((Bl.rep (⟨#[99, 104, 97, 114, 97, 99, 116, 101, 114, 95, 99, 111, 100, 101]⟩)).2))) (step_bRep (g := 990) (by kernel_rfl) (Opd.const _) (Opd.of_base 990 rfl) rfl) (by kernel_rfl) (by decide) h ?_
  clear h
  intro a w h
  refine env_one (i := 1) (d := 2) (k := .val (.int .i64 0)) (step_assign (by kernel_rfl) (Opd.const _) rfl) (by kernel_rfl) (by decide) h ?_
  clear h
  intro a w h
  refine env_store (i := 2) (x := 3) (y := 23) (r := r) [(2, .val (.int .i64 0)), (990, .sat (gP nb (some r))), (4, .val (.bool true)), (5, .val (.int .i64 (Bl.int p0 l0).1)), (23, .sat (nT nb (some r) ((Bl.rep (⟨#[99, 104, 97, 114, 97, 99, 116, 101, 114, 95, 99, 111, 100, 101]⟩)).1) ((Bl.rep (⟨#[99, 104, 97, 114, 97, 99, 116, 101, 114, 95, 99, 111, 100, 101]⟩)).2)))] (by kernel_rfl) rfl rfl hr (stays_cons 2 rfl (away_val _ _) (stays_cons 990 rfl (away_gP _ _ _) (stays_cons 4 rfl (away_val _ _) (stays_cons 5 rfl (away_val _ _) (stays_cons 23 rfl (away_nT _ _ _ _) (stays_nil _ _)))))) h ?_
  clear h
  intro a w h
  refine env_one (i := 3) (d := 4) (k := .val (.bool false)) (step_assign (by kernel_rfl) (Opd.const _) rfl) (by kernel_rfl) (by decide) h ?_
  clear h
  intro a w h
  exact hQ a w (h.keep [2, 990, 4, 5, 3])
theorem bCode4c_region {Q : Exit → Act → World → Prop} (p0 : Pay) (l0 : Fo) (nb r : Nat) (h1 : ¬ (Bl.int p0 l0).1 < 0) (h2 : 255 < (Bl.int p0 l0).1) {w0 : World} {a : Act} {w : World} (hr : w0.heap.size ≤ r) (h : Hold 26 [(2, .val (.int .i64 0)), (990, .sat (gP nb (some r))), (4, .val (.bool true)), (5, .val (.int .i64 (Bl.int p0 l0).1)), (3, .sat (rC nb r (((Bl.int p0 l0).2.1).1) (((Bl.int p0 l0).2.1).2)))] w0 a w)
    (hQ : ∀ a' w', Hold 26 [(2, .val (.int .i64 0)), (990, .sat (gP nb (some r))), (4, .val (.bool true)), (5, .val (.int .i64 (Bl.int p0 l0).1)), (3, .sat (rC nb r (((Bl.int p0 l0).2.1).1) (((Bl.int p0 l0).2.1).2))), (16, .val (.bool true))] w0 a' w' → Q .normal a' w') : (Code.region 4 bCode4Ops false).wp Try.prog Q a w := by
  refine region_seq (w0 := w) 7 (by kernel_rfl) ?_
  rw [show List.range 7 = [0, 1, 2, 3, 4, 5, 6] from rfl]
  refine env_one (i := 0) (d := 17) (k := .val (.int .i64 (Bl.int p0 l0).1)) (step_move (by kernel_rfl) (Opd.of_base 5 rfl) rfl) (by kernel_rfl) (by decide) h ?_
  clear h
  intro a w h
  refine env_one (i := 1) (d := 18) (k := .val (.bool false)) (step_lt_int64 (m := (Bl.int p0 l0).1) (n := 0) (by kernel_rfl) (Opd.of_base 17 rfl) (Opd.const _) (decide_eq_false h1) rfl) (by kernel_rfl) (by decide) h ?_
  clear h
  intro a w h
  refine env_one (i := 2) (d := 19) (k := .val (.bool false)) (step_move (by kernel_rfl) (Opd.of_base 18 rfl) rfl) (by kernel_rfl) (by decide) h ?_
  clear h
  intro a w h
  refine env_guard (i := 3) (d := 20) (g := 2) (dg := 19) (b := false) (k := .val (.int .i64 (Bl.int p0 l0).1)) (step_move (by kernel_rfl) (Opd.of_base 5 rfl) rfl) (by kernel_rfl) (by decide) (by kernel_rfl) (by decide) rfl h ?_
  clear h
  intro a w h
  refine env_guard (i := 4) (d := 21) (g := 2) (dg := 19) (b := false) (k := .val (.bool true)) (step_gt_int64 (m := (Bl.int p0 l0).1) (n := 255) (by kernel_rfl) (Opd.of_base 20 rfl) (Opd.const _) (decide_eq_true h2) rfl) (by kernel_rfl) (by decide) (by kernel_rfl) (by decide) rfl h ?_
  clear h
  intro a w h
  refine env_one (i := 5) (d := 22) (k := .val (.bool true)) (step_pick_no (x := .const (.bool true)) (by kernel_rfl) (Opd.of_base 19 rfl) (Opd.of_base 21 rfl) rfl) (by kernel_rfl) (by decide) h ?_
  clear h
  intro a w h
  refine env_one (i := 6) (d := 16) (k := .val (.bool true)) (step_assign (by kernel_rfl) (Opd.of_base 22 rfl) rfl) (by kernel_rfl) (by decide) h ?_
  clear h
  intro a w h
  exact hQ a w (h.keep [2, 990, 4, 5, 3, 16])
theorem bCode2b_region {Q : Exit → Act → World → Prop} (p0 : Pay) (l0 : Fo) (nb r : Nat)  {w0 : World} {a : Act} {w : World} (hr : w0.heap.size ≤ r) (h : Hold 26 [(2, .val (.int .i64 0)), (990, .sat (gP nb (some r))), (4, .val (.bool false)), (5, .val (.int .i64 (Bl.int p0 l0).1)), (3, .sat (rC nb r (((Bl.int p0 l0).2.1).1) (((Bl.int p0 l0).2.1).2)))] w0 a w)
    (hQ : ∀ a' w', Hold 26 [(2, .val (.int .i64 0)), (990, .sat (gP nb (some r))), (4, .val (.bool false)), (5, .val (.int .i64 (Bl.int p0 l0).1)), (3, .sat (rC nb r (((Bl.int p0 l0).2.1).1) (((Bl.int p0 l0).2.1).2))), (12, .val (.bool true))] w0 a' w' → Q .normal a' w') : (Code.region 2 bCode2Ops false).wp Try.prog Q a w := by
  refine region_seq (w0 := w) 3 (by kernel_rfl) ?_
  rw [show List.range 3 = [0, 1, 2] from rfl]
  refine env_one (i := 0) (d := 13) (k := .val (.bool false)) (step_move (by kernel_rfl) (Opd.of_base 4 rfl) rfl) (by kernel_rfl) (by decide) h ?_
  clear h
  intro a w h
  refine env_one (i := 1) (d := 14) (k := .val (.bool true)) (step_not (by kernel_rfl) (Opd.of_base 13 rfl) rfl) (by kernel_rfl) (by decide) h ?_
  clear h
  intro a w h
  refine env_one (i := 2) (d := 12) (k := .val (.bool true)) (step_assign (by kernel_rfl) (Opd.of_base 14 rfl) rfl) (by kernel_rfl) (by decide) h ?_
  clear h
  intro a w h
  exact hQ a w (h.keep [2, 990, 4, 5, 3, 12])
def bCode3aEs (p0 : Pay) (l0 : Fo) (nb r : Nat) : List Kd := [
  .sat (nT nb (some r) (((Bl.int p0 l0).2.1).1) (((Bl.int p0 l0).2.1).2)),
  .val (.int .i64 0)]
def bCode3aDs : List Nat := [15, 2]
def bCode3aEnv (p0 : Pay) (l0 : Fo) (nb r : Nat) : Env := [(990, .sat (gP nb (some r))), (4, .val (.bool false)), (5, .val (.int .i64 (Bl.int p0 l0).1)), (3, .sat (rC nb r (((Bl.int p0 l0).2.1).1) (((Bl.int p0 l0).2.1).2)))]
theorem bCode3a_0 {Q : Exit → Act → World → Prop} (p0 : Pay) (l0 : Fo) (nb r : Nat)  : RStep (strip bCode3Ops) Q (fun i => ((bCode3aEs p0 l0 nb r)[i]?).getD .any) (fun i => (bCode3aDs[i]?).getD (1000 + i)) (look (bCode3aEnv p0 l0 nb r)) 26 0 := fun _ => step_cload (by kernel_rfl) (Opd.of_base 3 rfl) rfl
theorem bCode3a_1 {Q : Exit → Act → World → Prop} (p0 : Pay) (l0 : Fo) (nb r : Nat)  : RStep (strip bCode3Ops) Q (fun i => ((bCode3aEs p0 l0 nb r)[i]?).getD .any) (fun i => (bCode3aDs[i]?).getD (1000 + i)) (look (bCode3aEnv p0 l0 nb r)) 26 1 := fun _ => step_assign (by kernel_rfl) (Opd.const _) rfl
theorem bCode3a_region {Q : Exit → Act → World → Prop} (p0 : Pay) (l0 : Fo) (nb r : Nat)  {w0 : World} {a : Act} {w : World} (hr : w0.heap.size ≤ r) (h : Hold 26 [(990, .sat (gP nb (some r))), (4, .val (.bool false)), (5, .val (.int .i64 (Bl.int p0 l0).1)), (3, .sat (rC nb r (((Bl.int p0 l0).2.1).1) (((Bl.int p0 l0).2.1).2)))] w0 a w)
    (hQ : ∀ a' w', Hold 26 [(990, .sat (gP nb (some r))), (4, .val (.bool false)), (5, .val (.int .i64 (Bl.int p0 l0).1)), (2, .val (.int .i64 0)), (3, .sat (rC nb r (((Bl.int p0 l0).2.1).1) (((Bl.int p0 l0).2.1).2)))] w0 a' w' → Q .normal a' w') : (Code.region 3 bCode3Ops true).wp Try.prog Q a w := by
  have hall : ∀ i, i < 0 → RStep (strip bCode3Ops) Q (fun i => ((bCode3aEs p0 l0 nb r)[i]?).getD .any) (fun i => (bCode3aDs[i]?).getD (1000 + i)) (look (bCode3aEnv p0 l0 nb r)) 26 i := fun i hi => absurd hi (by omega)
  have hall := below_succ hall (bCode3a_0 p0 l0 nb r )
  have hall := below_succ hall (bCode3a_1 p0 l0 nb r )
  refine env_then (m := 2) (n := 4) bCode3aDs (bCode3aEs p0 l0 nb r) rfl (by kernel_rfl) (by decide) (by kernel_rfl) (of_decide_eq_true (by kernel_rfl)) (by kernel_rfl) (by kernel_rfl) (fun i_ hi_ => hall i_ hi_) h fun a w h => ?_
  clear hall
  have h := h.keep [990, 4, 5, 3, 15, 2]
  show wpOps Try.prog _ Q [2, 3] a w
  refine env_store (i := 2) (x := 3) (y := 15) (r := r) [(990, .sat (gP nb (some r))), (4, .val (.bool false)), (5, .val (.int .i64 (Bl.int p0 l0).1)), (15, .sat (nT nb (some r) (((Bl.int p0 l0).2.1).1) (((Bl.int p0 l0).2.1).2))), (2, .val (.int .i64 0))] (by kernel_rfl) rfl rfl hr (stays_cons 990 rfl (away_gP _ _ _) (stays_cons 4 rfl (away_val _ _) (stays_cons 5 rfl (away_val _ _) (stays_cons 15 rfl (away_nT _ _ _ _) (stays_cons 2 rfl (away_val _ _) (stays_nil _ _)))))) h ?_
  clear h
  intro a w h
  refine env_one (i := 3) (d := 4) (k := .val (.bool false)) (step_assign (by kernel_rfl) (Opd.const _) rfl) (by kernel_rfl) (by decide) h ?_
  clear h
  intro a w h
  exact hQ a w (h.keep [990, 4, 5, 2, 3])
set_option maxHeartbeats 1000000 in
theorem bCode_any (p0 : Pay) (l0 : Fo) (A0 : Option Addr) (c0 : Nat) (B : Nat) (w : World) (hA0 : ArgsB w B A0 (Tm.len l0) l0) (hB : B ≤ w.heap.size)  : Calls Try.prog 47 #[tv p0 A0 (Tm.len l0) c0] w (MkXB w.heap.size (.int .i64 (Bl.code p0 l0).1) ((Bl.code p0 l0).2.1).1 ((Bl.code p0 l0).2.1).2 ((Bl.code p0 l0).2.2) w) := by
  refine calls_of_wp Try.func47 bCode_body ?_
  obtain ⟨v0, hv0⟩ : ∃ v : Value, v = tv p0 A0 (Tm.len l0) c0 := ⟨_, rfl⟩
  rw [← hv0]
  have hk0 : (Kd.term p0 l0).R v0 w := by rw [hv0]; exact ⟨A0, c0, rfl, hA0.up hB⟩
  have hsN : (#[v0] ++ Array.replicate (Try.f47.ntmps - #[v0].size) undef : Array Value).size = 26 := by kernel_rfl
  have gs0 : (#[v0] ++ Array.replicate (Try.f47.ntmps - #[v0].size) undef : Array Value).getD 0 undef = v0 := by kernel_rfl
  generalize (#[v0] ++ Array.replicate (Try.f47.ntmps - #[v0].size) undef : Array Value) = tm at hsN gs0 ⊢
  obtain ⟨a, ha0⟩ : ∃ a : Act, a = ⟨tm, []⟩ := ⟨_, rfl⟩
  have h : Hold 26 [(0, .term p0 l0)] w ⟨tm, []⟩ w := ⟨hsN, rfl, Below.refl _ _, (slots_cons 0 (by rw [gs0]; exact hk0) slots_nil)⟩
  obtain ⟨nb, hnb⟩ : ∃ nb, nb = w.heap.size := ⟨_, rfl⟩
  have hn : nb ≤ w.heap.size := by omega
  refine wp_seq ?_
  refine bCode0a_region p0 l0 nb  hn h ?_
  intro r a w1 hr h
  show Code.wp _ _ _ a w1
  refine wp_seq ?_
  refine bCode1a_region p0 l0 nb r  hr h ?_
  intro a w1 h
  show Code.wp _ _ _ a w1
  refine wp_seq ?_
  refine wp_block ?_
  refine wp_seq ?_
  rcases Bool.eq_false_or_eq_true ((Bl.int p0 l0).2.2) with hc | hc
  · rw [hc] at h
    refine bCode2a_region p0 l0 nb r  hr h ?_
    intro a w1 h
    show Code.wp _ _ _ a w1
    refine env_cond (b := false) rfl h ?_
    have h := h.keep [2, 990, 4, 5, 3]
    show Code.wp _ _ _ a w1
    refine wp_seq ?_
    by_cases h1 : (Bl.int p0 l0).1 < 0
    rotate_left
    by_cases h2 : 255 < (Bl.int p0 l0).1
    rotate_left
    · refine bCode4a_region p0 l0 nb r h1 h2 hr h ?_
      intro a w1 h
      show Code.wp _ _ _ a w1
      refine env_cond (b := false) rfl h ?_
      refine wp_skip ?_
      have h := h.keep [2, 990, 4, 5, 3]
      show Code.wp _ _ _ a w1
      refine wp_seq ?_
      refine bCode6a_region p0 l0 nb r  hr h ?_
      intro a w1 h
      show Code.wp _ _ _ a w1
      have ev : Bl.code p0 l0 = ((Bl.int p0 l0).1, ((zp, .nil), true)) := by simp [Bl.code, hc, h1, h2]
      rw [ev]
      refine wp_ret ?_
      (try simp only [then_ret, block_ret])
      exact law_xcb rfl (h.get 2 rfl) (h.get 4 rfl) (h.get 3 rfl) h.defers fun A c ha => ⟨A, c, rfl, ha.mono fun b hb => ⟨by have := hb.1; omega, hb.2.1⟩, h.world⟩
    · refine bCode4b_region p0 l0 nb r h1 hr h ?_
      intro a w1 h
      show Code.wp _ _ _ a w1
      refine env_cond (b := true) rfl h ?_
      have h := h.keep [2, 990, 4, 5, 3]
      show Code.wp _ _ _ a w1
      refine wp_seq ?_
      refine bCode5a_region p0 l0 nb r  hr h ?_
      intro a w1 h
      show Code.wp _ _ _ a w1
      have ev : Bl.code p0 l0 = (0, (((Bl.rep (⟨#[99, 104, 97, 114, 97, 99, 116, 101, 114, 95, 99, 111, 100, 101]⟩)).1, (Bl.rep (⟨#[99, 104, 97, 114, 97, 99, 116, 101, 114, 95, 99, 111, 100, 101]⟩)).2), false)) := by simp [Bl.code, hc, h1]
      rw [ev]
      refine wp_ret ?_
      (try simp only [then_ret, block_ret])
      exact law_xcb rfl (h.get 2 rfl) (h.get 4 rfl) (h.get 3 rfl) h.defers fun A c ha => ⟨A, c, rfl, ha.mono fun b hb => ⟨by have := hb.1; omega, hb.2.1⟩, h.world⟩
    · refine bCode4c_region p0 l0 nb r h1 h2 hr h ?_
      intro a w1 h
      show Code.wp _ _ _ a w1
      refine env_cond (b := true) rfl h ?_
      have h := h.keep [2, 990, 4, 5, 3]
      show Code.wp _ _ _ a w1
      refine wp_seq ?_
      refine bCode5a_region p0 l0 nb r  hr h ?_
      intro a w1 h
      show Code.wp _ _ _ a w1
      have ev : Bl.code p0 l0 = (0, (((Bl.rep (⟨#[99, 104, 97, 114, 97, 99, 116, 101, 114, 95, 99, 111, 100, 101]⟩)).1, (Bl.rep (⟨#[99, 104, 97, 114, 97, 99, 116, 101, 114, 95, 99, 111, 100, 101]⟩)).2), false)) := by simp [Bl.code, hc, h1, h2]
      rw [ev]
      refine wp_ret ?_
      (try simp only [then_ret, block_ret])
      exact law_xcb rfl (h.get 2 rfl) (h.get 4 rfl) (h.get 3 rfl) h.defers fun A c ha => ⟨A, c, rfl, ha.mono fun b hb => ⟨by have := hb.1; omega, hb.2.1⟩, h.world⟩
  · rw [hc] at h
    refine bCode2b_region p0 l0 nb r  hr h ?_
    intro a w1 h
    show Code.wp _ _ _ a w1
    refine env_cond (b := true) rfl h ?_
    have h := h.keep [2, 990, 4, 5, 3]
    show Code.wp _ _ _ a w1
    refine wp_seq ?_
    have h := h.keep [990, 4, 5, 3]
    refine bCode3a_region p0 l0 nb r  hr h ?_
    intro a w1 h
    show Code.wp _ _ _ a w1
    have ev : Bl.code p0 l0 = (0, ((((Bl.int p0 l0).2.1).1, ((Bl.int p0 l0).2.1).2), false)) := by simp [Bl.code, hc]
    rw [ev]
    refine wp_ret ?_
    (try simp only [then_ret, block_ret])
    exact law_xcb rfl (h.get 2 rfl) (h.get 4 rfl) (h.get 3 rfl) h.defers fun A c ha => ⟨A, c, rfl, ha.mono fun b hb => ⟨by have := hb.1; omega, hb.2.1⟩, h.world⟩
section
variable {ops : Array Oper} {Q : Exit → Act → World → Prop} {E : Nat → Kd} {D : Nat → Nat} {base : Nat → Option Kd} {N : Nat}
theorem step_bCode {i : Nat} {n g : Nat} {G : Option Nat} {x0 : Operand} {p0 : Pay} {l0 : Fo} (hop : (ops[i]?).map (·.op) = some (.call { callee := .value (.func 47), args := #[x0], argTypes := #[24] })) (h0 : Opd ops E D base N i x0 (.term p0 l0)) (hg : Opd ops E D base N i (.tmp g) (.sat (gP n G))) (hE : E i = .sat (nT3 n G (.int .i64 (Bl.code p0 l0).1) ((Bl.code p0 l0).2.1).1 ((Bl.code p0 l0).2.1).2 ((Bl.code p0 l0).2.2))) : Step Try.prog ops Q E D base N i :=
  step_mkXB hop (fun _ _ => by kernel_rfl) hg (fun a w h => by
    obtain ⟨A0, c0, e0, ha0⟩ := h0 a w h
    rw [show (#[x0] : Array Operand).map a.eval = #[tv p0 A0 (Tm.len l0) c0] by rw [← e0]; simp]
    exact bCode_any p0 l0 A0 c0 w.heap.size w ha0 (Nat.le_refl _)) hE
end
noncomputable def bArity0Ops : Array Oper := ((Try.f77.body).bind (findReg 0)).getD #[]
noncomputable def bArity1Ops : Array Oper := ((Try.f77.body).bind (findReg 1)).getD #[]
noncomputable def bArity2Ops : Array Oper := ((Try.f77.body).bind (findReg 2)).getD #[]
noncomputable def bArity3Ops : Array Oper := ((Try.f77.body).bind (findReg 3)).getD #[]
noncomputable def bArity4Ops : Array Oper := ((Try.f77.body).bind (findReg 4)).getD #[]
noncomputable def bArity5Ops : Array Oper := ((Try.f77.body).bind (findReg 5)).getD #[]
noncomputable def bArity6Ops : Array Oper := ((Try.f77.body).bind (findReg 6)).getD #[]
noncomputable def bArity7Ops : Array Oper := ((Try.f77.body).bind (findReg 7)).getD #[]
noncomputable def bArity8Ops : Array Oper := ((Try.f77.body).bind (findReg 8)).getD #[]
theorem bArity_body : Try.f77.body = some (.seq (.region 0 bArity0Ops false) (.seq (.region 1 bArity1Ops false) (.seq (.block 0 (.seq (.region 2 bArity2Ops false) (.cond (.tmp 12) (.seq (.region 3 bArity3Ops true) .ret) (.seq (.region 4 bArity4Ops false) (.cond (.tmp 16) (.seq (.region 5 bArity5Ops false) .ret) (.seq (.region 6 bArity6Ops false) (.cond (.tmp 21) (.seq (.region 7 bArity7Ops false) .ret) .skip))))))) (.seq (.region 8 bArity8Ops false) .ret)))) := by kernel_rfl
theorem bArity0a_region {Q : Exit → Act → World → Prop} (p0 : Pay) (l0 : Fo) (nb : Nat)  {w0 : World} {a : Act} {w : World} (hn : nb ≤ w0.heap.size) (h : Hold 27 [(0, .term p0 l0)] w0 a w)
    (hQ : ∀ r a' w', w0.heap.size ≤ r → Hold 27 [(1, .sat (nP 0 (some r) p0 l0)), (2, .val (.int .i64 0)), (3, .sat (rC nb r zp .nil)), (990, .sat (gP nb (some r))), (4, .val (.bool false))] w0 a' w' → Q .normal a' w') : (Code.region 0 bArity0Ops false).wp Try.prog Q a w := by
  refine region_seq (w0 := w) 4 (by kernel_rfl) ?_
  rw [show List.range 4 = [0, 1, 2, 3] from rfl]
  refine env_one (i := 0) (d := 1) (k := .ptrT p0 l0) (step_box (by kernel_rfl) (Opd.of_base 0 rfl) rfl) (by kernel_rfl) (by decide) h ?_
  clear h
  intro a w h
  refine env_one (i := 1) (d := 2) (k := .val (.int .i64 0)) (step_assign (by kernel_rfl) (Opd.const _) rfl) (by kernel_rfl) (by decide) h ?_
  clear h
  intro a w h
  refine env_res (i := 2) (d := 3) (n := nb) (fun r => [(0, .sat (nT 0 (some r) p0 l0)), (1, .sat (nP 0 (some r) p0 l0)), (2, .val (.int .i64 0))]) (by kernel_rfl) (by decide) (by decide) hn (fun r => (goes_cons 0 rfl (turns_term _ _ _) (goes_cons 1 rfl (turns_ptr _ _ _) (goes_cons 2 rfl (turns_val _ _) (goes_nil _ _))))) h ?_
  clear h
  intro r a w hr h
  refine env_one (i := 3) (d := 4) (k := .val (.bool false)) (step_assign (by kernel_rfl) (Opd.const _) rfl) (by kernel_rfl) (by decide) h ?_
  clear h
  intro a w h
  exact hQ r a w hr (h.keep [1, 2, 3, 990, 4])
theorem bArity1a_region {Q : Exit → Act → World → Prop} (p0 : Pay) (l0 : Fo) (nb r : Nat)  {w0 : World} {a : Act} {w : World} (hr : w0.heap.size ≤ r) (h : Hold 27 [(1, .sat (nP 0 (some r) p0 l0)), (2, .val (.int .i64 0)), (3, .sat (rC nb r zp .nil)), (990, .sat (gP nb (some r))), (4, .val (.bool false))] w0 a w)
    (hQ : ∀ a' w', Hold 27 [(1, .sat (nP 0 (some r) p0 l0)), (2, .val (.int .i64 0)), (990, .sat (gP nb (some r))), (4, .val (.bool ((Bl.int p0 l0).2.2))), (5, .val (.int .i64 (Bl.int p0 l0).1)), (3, .sat (rC nb r (((Bl.int p0 l0).2.1).1) (((Bl.int p0 l0).2.1).2)))] w0 a' w' → Q .normal a' w') : (Code.region 1 bArity1Ops false).wp Try.prog Q a w := by
  refine region_seq (w0 := w) 9 (by kernel_rfl) ?_
  rw [show List.range 9 = [0, 1, 2, 3, 4, 5, 6, 7, 8] from rfl]
  refine env_one (i := 0) (d := 7) (k := .sat (nT 0 (some r) p0 l0)) (step_nload (by kernel_rfl) (Opd.of_base 1 rfl) rfl) (by kernel_rfl) (by decide) h ?_
  clear h
  intro a w h
  refine env_one (i := 1) (d := 8) (k := .sat (nT3 nb (some r) (.int .i64 (Bl.int p0 l0).1) (((Bl.int p0 l0).2.1).1) (((Bl.int p0 l0).2.1).2) ((Bl.int p0 l0).2.2))) (step_bInt (g := 990) (by kernel_rfl) (Opd.ofT (Opd.of_base 7 rfl)) (Opd.of_base 990 rfl) rfl) (by kernel_rfl) (by decide) h ?_
  clear h
  intro a w h
  refine env_one (i := 2) (d := 6) (k := .sat (nT3 nb (some r) (.int .i64 (Bl.int p0 l0).1) (((Bl.int p0 l0).2.1).1) (((Bl.int p0 l0).2.1).2) ((Bl.int p0 l0).2.2))) (step_move (by kernel_rfl) (Opd.of_base 8 rfl) rfl) (by kernel_rfl) (by decide) h ?_
  clear h
  intro a w h
  refine env_one (i := 3) (d := 9) (k := .val (.int .i64 (Bl.int p0 l0).1)) (step_nT3_0 (by kernel_rfl) (Opd.of_base 6 rfl) rfl) (by kernel_rfl) (by decide) h ?_
  clear h
  intro a w h
  refine env_one (i := 4) (d := 10) (k := .sat (nT nb (some r) (((Bl.int p0 l0).2.1).1) (((Bl.int p0 l0).2.1).2))) (step_nT3_1 (by kernel_rfl) (Opd.of_base 6 rfl) rfl) (by kernel_rfl) (by decide) h ?_
  clear h
  intro a w h
  refine env_one (i := 5) (d := 11) (k := .val (.bool ((Bl.int p0 l0).2.2))) (step_nT3_2 (by kernel_rfl) (Opd.of_base 6 rfl) rfl) (by kernel_rfl) (by decide) h ?_
  clear h
  intro a w h
  refine env_one (i := 6) (d := 5) (k := .val (.int .i64 (Bl.int p0 l0).1)) (step_assign (by kernel_rfl) (Opd.of_base 9 rfl) rfl) (by kernel_rfl) (by decide) h ?_
  clear h
  intro a w h
  refine env_store (i := 7) (x := 3) (y := 10) (r := r) [(1, .sat (nP 0 (some r) p0 l0)), (2, .val (.int .i64 0)), (990, .sat (gP nb (some r))), (4, .val (.bool false)), (7, .sat (nT 0 (some r) p0 l0)), (8, .sat (nT3 nb (some r) (.int .i64 (Bl.int p0 l0).1) (((Bl.int p0 l0).2.1).1) (((Bl.int p0 l0).2.1).2) ((Bl.int p0 l0).2.2))), (6, .sat (nT3 nb (some r) (.int .i64 (Bl.int p0 l0).1) (((Bl.int p0 l0).2.1).1) (((Bl.int p0 l0).2.1).2) ((Bl.int p0 l0).2.2))), (9, .val (.int .i64 (Bl.int p0 l0).1)), (10, .sat (nT nb (some r) (((Bl.int p0 l0).2.1).1) (((Bl.int p0 l0).2.1).2))), (11, .val (.bool ((Bl.int p0 l0).2.2))), (5, .val (.int .i64 (Bl.int p0 l0).1))] (by kernel_rfl) rfl rfl hr (stays_cons 1 rfl (away_nP _ _ _ _) (stays_cons 2 rfl (away_val _ _) (stays_cons 990 rfl (away_gP _ _ _) (stays_cons 4 rfl (away_val _ _) (stays_cons 7 rfl (away_nT _ _ _ _) (stays_cons 8 rfl (away_nT3 _ _ _ _ _ _) (stays_cons 6 rfl (away_nT3 _ _ _ _ _ _) (stays_cons 9 rfl (away_val _ _) (stays_cons 10 rfl (away_nT _ _ _ _) (stays_cons 11 rfl (away_val _ _) (stays_cons 5 rfl (away_val _ _) (stays_nil _ _)))))))))))) h ?_
  clear h
  intro a w h
  refine env_one (i := 8) (d := 4) (k := .val (.bool ((Bl.int p0 l0).2.2))) (step_assign (by kernel_rfl) (Opd.of_base 11 rfl) rfl) (by kernel_rfl) (by decide) h ?_
  clear h
  intro a w h
  exact hQ a w (h.keep [1, 2, 990, 4, 5, 3])
theorem bArity2a_region {Q : Exit → Act → World → Prop} (p0 : Pay) (l0 : Fo) (nb r : Nat)  {w0 : World} {a : Act} {w : World} (hr : w0.heap.size ≤ r) (h : Hold 27 [(1, .sat (nP 0 (some r) p0 l0)), (2, .val (.int .i64 0)), (990, .sat (gP nb (some r))), (4, .val (.bool true)), (5, .val (.int .i64 (Bl.int p0 l0).1)), (3, .sat (rC nb r (((Bl.int p0 l0).2.1).1) (((Bl.int p0 l0).2.1).2)))] w0 a w)
    (hQ : ∀ a' w', Hold 27 [(1, .sat (nP 0 (some r) p0 l0)), (2, .val (.int .i64 0)), (990, .sat (gP nb (some r))), (4, .val (.bool true)), (5, .val (.int .i64 (Bl.int p0 l0).1)), (3, .sat (rC nb r (((Bl.int p0 l0).2.1).1) (((Bl.int p0 l0).2.1).2))), (12, .val (.bool false))] w0 a' w' → Q .normal a' w') : (Code.region 2 bArity2Ops false).wp Try.prog Q a w := by
  refine region_seq (w0 := w) 3 (by kernel_rfl) ?_
  rw [show List.range 3 = [0, 1, 2] from rfl]
  refine env_one (i := 0) (d := 13) (k := .val (.bool true)) (step_move (by kernel_rfl) (Opd.of_base 4 rfl) rfl) (by kernel_rfl) (by decide) h ?_
  clear h
  intro a w h
  refine env_one (i := 1) (d := 14) (k := .val (.bool false)) (step_not (by kernel_rfl) (Opd.of_base 13 rfl) rfl) (by kernel_rfl) (by decide) h ?_
  clear h
  intro a w h
  refine env_one (i := 2) (d := 12) (k := .val (.bool false)) (step_assign (by kernel_rfl) (Opd.of_base 14 rfl) rfl) (by kernel_rfl) (by decide) h ?_
  clear h
  intro a w h
  exact hQ a w (h.keep [1, 2, 990, 4, 5, 3, 12])
theorem bArity4a_region {Q : Exit → Act → World → Prop} (p0 : Pay) (l0 : Fo) (nb r : Nat) (h1 : (Bl.int p0 l0).1 < 0) {w0 : World} {a : Act} {w : World} (hr : w0.heap.size ≤ r) (h : Hold 27 [(1, .sat (nP 0 (some r) p0 l0)), (2, .val (.int .i64 0)), (990, .sat (gP nb (some r))), (4, .val (.bool true)), (5, .val (.int .i64 (Bl.int p0 l0).1)), (3, .sat (rC nb r (((Bl.int p0 l0).2.1).1) (((Bl.int p0 l0).2.1).2)))] w0 a w)
    (hQ : ∀ a' w', Hold 27 [(1, .sat (nP 0 (some r) p0 l0)), (2, .val (.int .i64 0)), (990, .sat (gP nb (some r))), (4, .val (.bool true)), (5, .val (.int .i64 (Bl.int p0 l0).1)), (3, .sat (rC nb r (((Bl.int p0 l0).2.1).1) (((Bl.int p0 l0).2.1).2))), (16, .val (.bool true))] w0 a' w' → Q .normal a' w') : (Code.region 4 bArity4Ops false).wp Try.prog Q a w := by
  refine region_seq (w0 := w) 3 (by kernel_rfl) ?_
  rw [show List.range 3 = [0, 1, 2] from rfl]
  refine env_one (i := 0) (d := 17) (k := .val (.int .i64 (Bl.int p0 l0).1)) (step_move (by kernel_rfl) (Opd.of_base 5 rfl) rfl) (by kernel_rfl) (by decide) h ?_
  clear h
  intro a w h
  refine env_one (i := 1) (d := 18) (k := .val (.bool true)) (step_lt_int64 (m := (Bl.int p0 l0).1) (n := 0) (by kernel_rfl) (Opd.of_base 17 rfl) (Opd.const _) (decide_eq_true h1) rfl) (by kernel_rfl) (by decide) h ?_
  clear h
  intro a w h
  refine env_one (i := 2) (d := 16) (k := .val (.bool true)) (step_assign (by kernel_rfl) (Opd.of_base 18 rfl) rfl) (by kernel_rfl) (by decide) h ?_
  clear h
  intro a w h
  exact hQ a w (h.keep [1, 2, 990, 4, 5, 3, 16])
theorem bArity5a_region {Q : Exit → Act → World → Prop} (p0 : Pay) (l0 : Fo) (nb r : Nat)  {w0 : World} {a : Act} {w : World} (hr : w0.heap.size ≤ r) (h : Hold 27 [(1, .sat (nP 0 (some r) p0 l0)), (2, .val (.int .i64 0)), (990, .sat (gP nb (some r))), (4, .val (.bool true)), (5, .val (.int .i64 (Bl.int p0 l0).1)), (3, .sat (rC nb r (((Bl.int p0 l0).2.1).1) (((Bl.int p0 l0).2.1).2)))] w0 a w)
    (hQ : ∀ a' w', Hold 27 [(2, .val (.int .i64 0)), (990, .sat (gP nb (some r))), (4, .val (.bool false)), (5, .val (.int .i64 (Bl.int p0 l0).1)), (3, .sat (rC nb r ((Bl.dom (⟨#[110, 111, 116, 95, 108, 101, 115, 115, 95, 116, 104, 97, 110, 95, 122, 101, 114, 111]⟩) p0 l0).1) ((Bl.dom (⟨#[110, 111, 116, 95, 108, 101, 115, 115, 95, 116, 104, 97, 110, 95, 122, 101, 114, 111]⟩) p0 l0).2)))] w0 a' w' → Q .normal a' w') : (Code.region 5 bArity5Ops false).wp Try.prog Q a w := by
  refine region_seq (w0 := w) 5 (by kernel_rfl) ?_
  rw [show List.range 5 = [0, 1, 2, 3, 4] from rfl]
  refine env_one (i := 0) (d := 19) (k := .sat (nT 0 (some r) p0 l0)) (step_nload (by kernel_rfl) (Opd.of_base 1 rfl) rfl) (by kernel_rfl) (by decide) h ?_
  clear h
  intro a w h
  refine env_one (i := 1) (d := 20) (k := .sat (nT nb (some r) ((Bl.dom (⟨#[110, 111, 116, 95, 108, 101, 115, 115, 95, 116, 104, 97, 110, 95, 122, 101, 114, 111]⟩) p0 l0).1) ((Bl.dom (⟨#[110, 111, 116, 95, 108, 101, 115, 115, 95, 116, 104, 97, 110, 95, 122, 101, 114, 111]⟩) p0 l0).2))) (step_bDom (g := 990) (by kernel_rfl) (Opd.const _) (Opd.ofT (Opd.of_base 19 rfl)) (Opd.of_base 990 rfl) rfl) (by kernel_rfl) (by decide) h ?_
  clear h
  intro a w h
  refine env_one (i := 2) (d := 2) (k := .val (.int .i64 0)) (step_assign (by kernel_rfl) (Opd.const _) rfl) (by kernel_rfl) (by decide) h ?_
  clear h
  intro a w h
  refine env_store (i := 3) (x := 3) (y := 20) (r := r) [(1, .sat (nP 0 (some r) p0 l0)), (2, .val (.int .i64 0)), (990, .sat (gP nb (some r))), (4, .val (.bool true)), (5, .val (.int .i64 (Bl.int p0 l0).1)), (19, .sat (nT 0 (some r) p0 l0)), (20, .sat (nT nb (some r) ((Bl.dom (⟨#[110, 111, 116, 95, 108, 101, 115, 115, 95, 116, 104, 97, 110, 95, 122, 101, 114, 111]⟩) p0 l0).1) ((Bl.dom (⟨#[110, 111, 116, 95, 108, 101, 115, 115, 95, 116, 104, 97, 110, 95, 122, 101, 114, 111]⟩) p0 l0).2)))] (by kernel_rfl) rfl rfl hr (stays_cons 1 rfl (away_nP _ _ _ _) (stays_cons 2 rfl (away_val _ _) (stays_cons 990 rfl (away_gP _ _ _) (stays_cons 4 rfl (away_val _ _) (stays_cons 5 rfl (away_val _ _) (stays_cons 19 rfl (away_nT _ _ _ _) (stays_cons 20 rfl (away_nT _ _ _ _) (stays_nil _ _)))))))) h ?_
  clear h
  intro a w h
  refine env_one (i := 4) (d := 4) (k := .val (.bool false)) (step_assign (by kernel_rfl) (Opd.const _) rfl) (by kernel_rfl) (by decide) h ?_
  clear h
  intro a w h
  exact hQ a w (h.keep [2, 990, 4, 5, 3])
theorem bArity4b_region {Q : Exit → Act → World → Prop} (p0 : Pay) (l0 : Fo) (nb r : Nat) (h1 : ¬ (Bl.int p0 l0).1 < 0) {w0 : World} {a : Act} {w : World} (hr : w0.heap.size ≤ r) (h : Hold 27 [(1, .sat (nP 0 (some r) p0 l0)), (2, .val (.int .i64 0)), (990, .sat (gP nb (some r))), (4, .val (.bool true)), (5, .val (.int .i64 (Bl.int p0 l0).1)), (3, .sat (rC nb r (((Bl.int p0 l0).2.1).1) (((Bl.int p0 l0).2.1).2)))] w0 a w)
    (hQ : ∀ a' w', Hold 27 [(1, .sat (nP 0 (some r) p0 l0)), (2, .val (.int .i64 0)), (990, .sat (gP nb (some r))), (4, .val (.bool true)), (5, .val (.int .i64 (Bl.int p0 l0).1)), (3, .sat (rC nb r (((Bl.int p0 l0).2.1).1) (((Bl.int p0 l0).2.1).2))), (16, .val (.bool false))] w0 a' w' → Q .normal a' w') : (Code.region 4 bArity4Ops false).wp Try.prog Q a w := by
  refine region_seq (w0 := w) 3 (by kernel_rfl) ?_
  rw [show List.range 3 = [0, 1, 2] from rfl]
  refine env_one (i := 0) (d := 17) (k := .val (.int .i64 (Bl.int p0 l0).1)) (step_move (by kernel_rfl) (Opd.of_base 5 rfl) rfl) (by kernel_rfl) (by decide) h ?_
  clear h
  intro a w h
  refine env_one (i := 1) (d := 18) (k := .val (.bool false)) (step_lt_int64 (m := (Bl.int p0 l0).1) (n := 0) (by kernel_rfl) (Opd.of_base 17 rfl) (Opd.const _) (decide_eq_false h1) rfl) (by kernel_rfl) (by decide) h ?_
  clear h
  intro a w h
  refine env_one (i := 2) (d := 16) (k := .val (.bool false)) (step_assign (by kernel_rfl) (Opd.of_base 18 rfl) rfl) (by kernel_rfl) (by decide) h ?_
  clear h
  intro a w h
  exact hQ a w (h.keep [1, 2, 990, 4, 5, 3, 16])
theorem bArity6a_region {Q : Exit → Act → World → Prop} (p0 : Pay) (l0 : Fo) (nb r : Nat) (h2 : 8 < (Bl.int p0 l0).1) {w0 : World} {a : Act} {w : World} (hr : w0.heap.size ≤ r) (h : Hold 27 [(2, .val (.int .i64 0)), (990, .sat (gP nb (some r))), (4, .val (.bool true)), (5, .val (.int .i64 (Bl.int p0 l0).1)), (3, .sat (rC nb r (((Bl.int p0 l0).2.1).1) (((Bl.int p0 l0).2.1).2)))] w0 a w)
    (hQ : ∀ a' w', Hold 27 [(2, .val (.int .i64 0)), (990, .sat (gP nb (some r))), (4, .val (.bool true)), (5, .val (.int .i64 (Bl.int p0 l0).1)), (3, .sat (rC nb r (((Bl.int p0 l0).2.1).1) (((Bl.int p0 l0).2.1).2))), (21, .val (.bool true))] w0 a' w' → Q .normal a' w') : (Code.region 6 bArity6Ops false).wp Try.prog Q a w := by
  refine region_seq (w0 := w) 3 (by kernel_rfl) ?_
  rw [show List.range 3 = [0, 1, 2] from rfl]
  refine env_one (i := 0) (d := 22) (k := .val (.int .i64 (Bl.int p0 l0).1)) (step_move (by kernel_rfl) (Opd.of_base 5 rfl) rfl) (by kernel_rfl) (by decide) h ?_
  clear h
  intro a w h
  refine env_one (i := 1) (d := 23) (k := .val (.bool true)) (step_gt_int64 (m := (Bl.int p0 l0).1) (n := 8) (by kernel_rfl) (Opd.of_base 22 rfl) (Opd.const _) (decide_eq_true h2) rfl) (by kernel_rfl) (by decide) h ?_
  clear h
  intro a w h
  refine env_one (i := 2) (d := 21) (k := .val (.bool true)) (step_assign (by kernel_rfl) (Opd.of_base 23 rfl) rfl) (by kernel_rfl) (by decide) h ?_
  clear h
  intro a w h
  exact hQ a w (h.keep [2, 990, 4, 5, 3, 21])
theorem bArity7a_region {Q : Exit → Act → World → Prop} (p0 : Pay) (l0 : Fo) (nb r : Nat)  {w0 : World} {a : Act} {w : World} (hr : w0.heap.size ≤ r) (h : Hold 27 [(2, .val (.int .i64 0)), (990, .sat (gP nb (some r))), (4, .val (.bool true)), (5, .val (.int .i64 (Bl.int p0 l0).1)), (3, .sat (rC nb r (((Bl.int p0 l0).2.1).1) (((Bl.int p0 l0).2.1).2)))] w0 a w)
    (hQ : ∀ a' w', Hold 27 [(2, .val (.int .i64 0)), (990, .sat (gP nb (some r))), (4, .val (.bool false)), (5, .val (.int .i64 (Bl.int p0 l0).1)), (3, .sat (rC nb r ((Bl.rep (⟨#[109, 97, 120, 95, 97, 114, 105, 116, 121]⟩)).1) ((Bl.rep (⟨#[109, 97, 120, 95, 97, 114, 105, 116, 121]⟩)).2)))] w0 a' w' → Q .normal a' w') : (Code.region 7 bArity7Ops false).wp Try.prog Q a w := by
  refine region_seq (w0 := w) 4 (by kernel_rfl) ?_
  rw [show List.range 4 = [0, 1, 2, 3] from rfl]
  refine env_one (i := 0) (d := 24) (k := .sat (nT nb (some r) ((Bl.rep (⟨#[109, 97, 120, 95, 97, 114, 105, 116, 121]⟩)).1) ((Bl.rep (⟨#[109, 97, 120, 95, 97, 114, 105, 116, 121]⟩)).2))) (step_bRep (g := 990) (by kernel_rfl) (Opd.const _) (Opd.of_base 990 rfl) rfl) (by kernel_rfl) (by decide) h ?_
  clear h
  intro a w h
  refine env_one (i := 1) (d := 2) (k := .val (.int .i64 0)) (step_assign (by kernel_rfl) (Opd.const _) rfl) (by kernel_rfl) (by decide) h ?_
  clear h
  intro a w h
  refine env_store (i := 2) (x := 3) (y := 24) (r := r) [(2, .val (.int .i64 0)), (990, .sat (gP nb (some r))), (4, .val (.bool true)), (5, .val (.int .i64 (Bl.int p0 l0).1)), (24, .sat (nT nb (some r) ((Bl.rep (⟨#[109, 97, 120, 95, 97, 114, 105, 116, 121]⟩)).1) ((Bl.rep (⟨#[109, 97, 120, 95, 97, 114, 105, 116, 121]⟩)).2)))] (by kernel_rfl) rfl rfl hr (stays_cons 2 rfl (away_val _ _) (stays_cons 990 rfl (away_gP _ _ _) (stays_cons 4 rfl (away_val _ _) (stays_cons 5 rfl (away_val _ _) (stays_cons 24 rfl (away_nT _ _ _ _) (stays_nil _ _)))))) h ?_
  clear h
  intro a w h
  refine env_one (i := 3) (d := 4) (k := .val (.bool false)) (step_assign (by kernel_rfl) (Opd.const _) rfl) (by kernel_rfl) (by decide) h ?_
  clear h
  intro a w h
  exact hQ a w (h.keep [2, 990, 4, 5, 3])
theorem bArity6b_region {Q : Exit → Act → World → Prop} (p0 : Pay) (l0 : Fo) (nb r : Nat) (h2 : ¬ 8 < (Bl.int p0 l0).1) {w0 : World} {a : Act} {w : World} (hr : w0.heap.size ≤ r) (h : Hold 27 [(2, .val (.int .i64 0)), (990, .sat (gP nb (some r))), (4, .val (.bool true)), (5, .val (.int .i64 (Bl.int p0 l0).1)), (3, .sat (rC nb r (((Bl.int p0 l0).2.1).1) (((Bl.int p0 l0).2.1).2)))] w0 a w)
    (hQ : ∀ a' w', Hold 27 [(2, .val (.int .i64 0)), (990, .sat (gP nb (some r))), (4, .val (.bool true)), (5, .val (.int .i64 (Bl.int p0 l0).1)), (3, .sat (rC nb r (((Bl.int p0 l0).2.1).1) (((Bl.int p0 l0).2.1).2))), (21, .val (.bool false))] w0 a' w' → Q .normal a' w') : (Code.region 6 bArity6Ops false).wp Try.prog Q a w := by
  refine region_seq (w0 := w) 3 (by kernel_rfl) ?_
  rw [show List.range 3 = [0, 1, 2] from rfl]
  refine env_one (i := 0) (d := 22) (k := .val (.int .i64 (Bl.int p0 l0).1)) (step_move (by kernel_rfl) (Opd.of_base 5 rfl) rfl) (by kernel_rfl) (by decide) h ?_
  clear h
  intro a w h
  refine env_one (i := 1) (d := 23) (k := .val (.bool false)) (step_gt_int64 (m := (Bl.int p0 l0).1) (n := 8) (by kernel_rfl) (Opd.of_base 22 rfl) (Opd.const _) (decide_eq_false h2) rfl) (by kernel_rfl) (by decide) h ?_
  clear h
  intro a w h
  refine env_one (i := 2) (d := 21) (k := .val (.bool false)) (step_assign (by kernel_rfl) (Opd.of_base 23 rfl) rfl) (by kernel_rfl) (by decide) h ?_
  clear h
  intro a w h
  exact hQ a w (h.keep [2, 990, 4, 5, 3, 21])
theorem bArity8a_region {Q : Exit → Act → World → Prop} (p0 : Pay) (l0 : Fo) (nb r : Nat)  {w0 : World} {a : Act} {w : World} (hr : w0.heap.size ≤ r) (h : Hold 27 [(2, .val (.int .i64 0)), (990, .sat (gP nb (some r))), (4, .val (.bool true)), (5, .val (.int .i64 (Bl.int p0 l0).1)), (3, .sat (rC nb r (((Bl.int p0 l0).2.1).1) (((Bl.int p0 l0).2.1).2)))] w0 a w)
    (hQ : ∀ a' w', Hold 27 [(2, .val (.int .i64 (Bl.int p0 l0).1)), (990, .sat (gP nb (some r))), (4, .val (.bool true)), (3, .sat (rC nb r zp .nil))] w0 a' w' → Q .normal a' w') : (Code.region 8 bArity8Ops false).wp Try.prog Q a w := by
  refine region_seq (w0 := w) 5 (by kernel_rfl) ?_
  rw [show List.range 5 = [0, 1, 2, 3, 4] from rfl]
  refine env_one (i := 0) (d := 25) (k := .val (.int .i64 (Bl.int p0 l0).1)) (step_move (by kernel_rfl) (Opd.of_base 5 rfl) rfl) (by kernel_rfl) (by decide) h ?_
  clear h
  intro a w h
  refine env_one (i := 1) (d := 26) (k := .sat (nT nb (some r) zp .nil)) (step_nzero (by kernel_rfl) rfl) (by kernel_rfl) (by decide) h ?_
  clear h
  intro a w h
  refine env_one (i := 2) (d := 2) (k := .val (.int .i64 (Bl.int p0 l0).1)) (step_assign (by kernel_rfl) (Opd.of_base 25 rfl) rfl) (by kernel_rfl) (by decide) h ?_
  clear h
  intro a w h
  refine env_store (i := 3) (x := 3) (y := 26) (r := r) [(2, .val (.int .i64 (Bl.int p0 l0).1)), (990, .sat (gP nb (some r))), (4, .val (.bool true)), (5, .val (.int .i64 (Bl.int p0 l0).1)), (25, .val (.int .i64 (Bl.int p0 l0).1)), (26, .sat (nT nb (some r) zp .nil))] (by kernel_rfl) rfl rfl hr (stays_cons 2 rfl (away_val _ _) (stays_cons 990 rfl (away_gP _ _ _) (stays_cons 4 rfl (away_val _ _) (stays_cons 5 rfl (away_val _ _) (stays_cons 25 rfl (away_val _ _) (stays_cons 26 rfl (away_nT _ _ _ _) (stays_nil _ _))))))) h ?_
  clear h
  intro a w h
  refine env_one (i := 4) (d := 4) (k := .val (.bool true)) (step_assign (by kernel_rfl) (Opd.const _) rfl) (by kernel_rfl) (by decide) h ?_
  clear h
  intro a w h
  exact hQ a w (h.keep [2, 990, 4, 3])
theorem bArity2b_region {Q : Exit → Act → World → Prop} (p0 : Pay) (l0 : Fo) (nb r : Nat)  {w0 : World} {a : Act} {w : World} (hr : w0.heap.size ≤ r) (h : Hold 27 [(1, .sat (nP 0 (some r) p0 l0)), (2, .val (.int .i64 0)), (990, .sat (gP nb (some r))), (4, .val (.bool false)), (5, .val (.int .i64 (Bl.int p0 l0).1)), (3, .sat (rC nb r (((Bl.int p0 l0).2.1).1) (((Bl.int p0 l0).2.1).2)))] w0 a w)
    (hQ : ∀ a' w', Hold 27 [(1, .sat (nP 0 (some r) p0 l0)), (2, .val (.int .i64 0)), (990, .sat (gP nb (some r))), (4, .val (.bool false)), (5, .val (.int .i64 (Bl.int p0 l0).1)), (3, .sat (rC nb r (((Bl.int p0 l0).2.1).1) (((Bl.int p0 l0).2.1).2))), (12, .val (.bool true))] w0 a' w' → Q .normal a' w') : (Code.region 2 bArity2Ops false).wp Try.prog Q a w := by
  refine region_seq (w0 := w) 3 (by kernel_rfl) ?_
  rw [show List.range 3 = [0, 1, 2] from rfl]
  refine env_one (i := 0) (d := 13) (k := .val (.bool false)) (step_move (by kernel_rfl) (Opd.of_base 4 rfl) rfl) (by kernel_rfl) (by decide) h ?_
  clear h
  intro a w h
  refine env_one (i := 1) (d := 14) (k := .val (.bool true)) (step_not (by kernel_rfl) (Opd.of_base 13 rfl) rfl) (by kernel_rfl) (by decide) h ?_
  clear h
  intro a w h
  refine env_one (i := 2) (d := 12) (k := .val (.bool true)) (step_assign (by kernel_rfl) (Opd.of_base 14 rfl) rfl) (by kernel_rfl) (by decide) h ?_
  clear h
  intro a w h
  exact hQ a w (h.keep [1, 2, 990, 4, 5, 3, 12])
def bArity3aEs (p0 : Pay) (l0 : Fo) (nb r : Nat) : List Kd := [
  .sat (nT nb (some r) (((Bl.int p0 l0).2.1).1) (((Bl.int p0 l0).2.1).2)),
  .val (.int .i64 0)]
def bArity3aDs : List Nat := [15, 2]
def bArity3aEnv (p0 : Pay) (l0 : Fo) (nb r : Nat) : Env := [(990, .sat (gP nb (some r))), (4, .val (.bool false)), (5, .val (.int .i64 (Bl.int p0 l0).1)), (3, .sat (rC nb r (((Bl.int p0 l0).2.1).1) (((Bl.int p0 l0).2.1).2)))]
theorem bArity3a_0 {Q : Exit → Act → World → Prop} (p0 : Pay) (l0 : Fo) (nb r : Nat)  : RStep (strip bArity3Ops) Q (fun i => ((bArity3aEs p0 l0 nb r)[i]?).getD .any) (fun i => (bArity3aDs[i]?).getD (1000 + i)) (look (bArity3aEnv p0 l0 nb r)) 27 0 := fun _ => step_cload (by kernel_rfl) (Opd.of_base 3 rfl) rfl
theorem bArity3a_1 {Q : Exit → Act → World → Prop} (p0 : Pay) (l0 : Fo) (nb r : Nat)  : RStep (strip bArity3Ops) Q (fun i => ((bArity3aEs p0 l0 nb r)[i]?).getD .any) (fun i => (bArity3aDs[i]?).getD (1000 + i)) (look (bArity3aEnv p0 l0 nb r)) 27 1 := fun _ => step_assign (by kernel_rfl) (Opd.const _) rfl
theorem bArity3a_region {Q : Exit → Act → World → Prop} (p0 : Pay) (l0 : Fo) (nb r : Nat)  {w0 : World} {a : Act} {w : World} (hr : w0.heap.size ≤ r) (h : Hold 27 [(990, .sat (gP nb (some r))), (4, .val (.bool false)), (5, .val (.int .i64 (Bl.int p0 l0).1)), (3, .sat (rC nb r (((Bl.int p0 l0).2.1).1) (((Bl.int p0 l0).2.1).2)))] w0 a w)
    (hQ : ∀ a' w', Hold 27 [(990, .sat (gP nb (some r))), (4, .val (.bool false)), (5, .val (.int .i64 (Bl.int p0 l0).1)), (2, .val (.int .i64 0)), (3, .sat (rC nb r (((Bl.int p0 l0).2.1).1) (((Bl.int p0 l0).2.1).2)))] w0 a' w' → Q .normal a' w') : (Code.region 3 bArity3Ops true).wp Try.prog Q a w := by
  have hall : ∀ i, i < 0 → RStep (strip bArity3Ops) Q (fun i => ((bArity3aEs p0 l0 nb r)[i]?).getD .any) (fun i => (bArity3aDs[i]?).getD (1000 + i)) (look (bArity3aEnv p0 l0 nb r)) 27 i := fun i hi => absurd hi (by omega)
  have hall := below_succ hall (bArity3a_0 p0 l0 nb r )
  have hall := below_succ hall (bArity3a_1 p0 l0 nb r )
  refine env_then (m := 2) (n := 4) bArity3aDs (bArity3aEs p0 l0 nb r) rfl (by kernel_rfl) (by decide) (by kernel_rfl) (of_decide_eq_true (by kernel_rfl)) (by kernel_rfl) (by kernel_rfl) (fun i_ hi_ => hall i_ hi_) h fun a w h => ?_
  clear hall
  have h := h.keep [990, 4, 5, 3, 15, 2]
  show wpOps Try.prog _ Q [2, 3] a w
  refine env_store (i := 2) (x := 3) (y := 15) (r := r) [(990, .sat (gP nb (some r))), (4, .val (.bool false)), (5, .val (.int .i64 (Bl.int p0 l0).1)), (15, .sat (nT nb (some r) (((Bl.int p0 l0).2.1).1) (((Bl.int p0 l0).2.1).2))), (2, .val (.int .i64 0))] (by kernel_rfl) rfl rfl hr (stays_cons 990 rfl (away_gP _ _ _) (stays_cons 4 rfl (away_val _ _) (stays_cons 5 rfl (away_val _ _) (stays_cons 15 rfl (away_nT _ _ _ _) (stays_cons 2 rfl (away_val _ _) (stays_nil _ _)))))) h ?_
  clear h
  intro a w h
  refine env_one (i := 3) (d := 4) (k := .val (.bool false)) (step_assign (by kernel_rfl) (Opd.const _) rfl) (by kernel_rfl) (by decide) h ?_
  clear h
  intro a w h
  exact hQ a w (h.keep [990, 4, 5, 2, 3])
set_option maxHeartbeats 1000000 in
theorem bArity_any (p0 : Pay) (l0 : Fo) (A0 : Option Addr) (c0 : Nat) (B : Nat) (w : World) (hA0 : ArgsB w B A0 (Tm.len l0) l0) (hB : B ≤ w.heap.size)  : Calls Try.prog 77 #[tv p0 A0 (Tm.len l0) c0] w (MkXB w.heap.size (.int .i64 (Bl.arity p0 l0).1) ((Bl.arity p0 l0).2.1).1 ((Bl.arity p0 l0).2.1).2 ((Bl.arity p0 l0).2.2) w) := by
  refine calls_of_wp Try.func77 bArity_body ?_
  obtain ⟨v0, hv0⟩ : ∃ v : Value, v = tv p0 A0 (Tm.len l0) c0 := ⟨_, rfl⟩
  rw [← hv0]
  have hk0 : (Kd.term p0 l0).R v0 w := by rw [hv0]; exact ⟨A0, c0, rfl, hA0.up hB⟩
  have hsN : (#[v0] ++ Array.replicate (Try.f77.ntmps - #[v0].size) undef : Array Value).size = 27 := by kernel_rfl
  have gs0 : (#[v0] ++ Array.replicate (Try.f77.ntmps - #[v0].size) undef : Array Value).getD 0 undef = v0 := by kernel_rfl
  generalize (#[v0] ++ Array.replicate (Try.f77.ntmps - #[v0].size) undef : Array Value) = tm at hsN gs0 ⊢
  obtain ⟨a, ha0⟩ : ∃ a : Act, a = ⟨tm, []⟩ := ⟨_, rfl⟩
  have h : Hold 27 [(0, .term p0 l0)] w ⟨tm, []⟩ w := ⟨hsN, rfl, Below.refl _ _, (slots_cons 0 (by rw [gs0]; exact hk0) slots_nil)⟩
  obtain ⟨nb, hnb⟩ : ∃ nb, nb = w.heap.size := ⟨_, rfl⟩
  have hn : nb ≤ w.heap.size := by omega
  refine wp_seq ?_
  refine bArity0a_region p0 l0 nb  hn h ?_
  intro r a w1 hr h
  show Code.wp _ _ _ a w1
  refine wp_seq ?_
  refine bArity1a_region p0 l0 nb r  hr h ?_
  intro a w1 h
  show Code.wp _ _ _ a w1
  refine wp_seq ?_
  refine wp_block ?_
  refine wp_seq ?_
  rcases Bool.eq_false_or_eq_true ((Bl.int p0 l0).2.2) with hc | hc
  · rw [hc] at h
    refine bArity2a_region p0 l0 nb r  hr h ?_
    intro a w1 h
    show Code.wp _ _ _ a w1
    refine env_cond (b := false) rfl h ?_
    have h := h.keep [1, 2, 990, 4, 5, 3]
    show Code.wp _ _ _ a w1
    refine wp_seq ?_
    by_cases h1 : (Bl.int p0 l0).1 < 0
    · refine bArity4a_region p0 l0 nb r h1 hr h ?_
      intro a w1 h
      show Code.wp _ _ _ a w1
      refine env_cond (b := true) rfl h ?_
      have h := h.keep [1, 2, 990, 4, 5, 3]
      show Code.wp _ _ _ a w1
      refine wp_seq ?_
      refine bArity5a_region p0 l0 nb r  hr h ?_
      intro a w1 h
      show Code.wp _ _ _ a w1
      have ev : Bl.arity p0 l0 = (0, (((Bl.dom (⟨#[110, 111, 116, 95, 108, 101, 115, 115, 95, 116, 104, 97, 110, 95, 122, 101, 114, 111]⟩) p0 l0).1, (Bl.dom (⟨#[110, 111, 116, 95, 108, 101, 115, 115, 95, 116, 104, 97, 110, 95, 122, 101, 114, 111]⟩) p0 l0).2), false)) := by simp [Bl.arity, hc, h1]
      rw [ev]
      refine wp_ret ?_
      (try simp only [then_ret, block_ret])
      exact law_xcb rfl (h.get 2 rfl) (h.get 4 rfl) (h.get 3 rfl) h.defers fun A c ha => ⟨A, c, rfl, ha.mono fun b hb => ⟨by have := hb.1; omega, hb.2.1⟩, h.world⟩
    · refine bArity4b_region p0 l0 nb r h1 hr h ?_
      intro a w1 h
      show Code.wp _ _ _ a w1
      refine env_cond (b := false) rfl h ?_
      have h := h.keep [2, 990, 4, 5, 3]
      show Code.wp _ _ _ a w1
      refine wp_seq ?_
      by_cases h2 : 8 < (Bl.int p0 l0).1
      · refine bArity6a_region p0 l0 nb r h2 hr h ?_
        intro a w1 h
        show Code.wp _ _ _ a w1
        refine env_cond (b := true) rfl h ?_
        have h := h.keep [2, 990, 4, 5, 3]
        show Code.wp _ _ _ a w1
        refine wp_seq ?_
        refine bArity7a_region p0 l0 nb r  hr h ?_
        intro a w1 h
        show Code.wp _ _ _ a w1
        have ev : Bl.arity p0 l0 = (0, (((Bl.rep (⟨#[109, 97, 120, 95, 97, 114, 105, 116, 121]⟩)).1, (Bl.rep (⟨#[109, 97, 120, 95, 97, 114, 105, 116, 121]⟩)).2), false)) := by simp [Bl.arity, hc, h1, h2]
        rw [ev]
        refine wp_ret ?_
        (try simp only [then_ret, block_ret])
        exact law_xcb rfl (h.get 2 rfl) (h.get 4 rfl) (h.get 3 rfl) h.defers fun A c ha => ⟨A, c, rfl, ha.mono fun b hb => ⟨by have := hb.1; omega, hb.2.1⟩, h.world⟩
      · refine bArity6b_region p0 l0 nb r h2 hr h ?_
        intro a w1 h
        show Code.wp _ _ _ a w1
        refine env_cond (b := false) rfl h ?_
        refine wp_skip ?_
        have h := h.keep [2, 990, 4, 5, 3]
        show Code.wp _ _ _ a w1
        refine wp_seq ?_
        refine bArity8a_region p0 l0 nb r  hr h ?_
        intro a w1 h
        show Code.wp _ _ _ a w1
        have ev : Bl.arity p0 l0 = ((Bl.int p0 l0).1, ((zp, .nil), true)) := by simp [Bl.arity, hc, h1, h2]
        rw [ev]
        refine wp_ret ?_
        (try simp only [then_ret, block_ret])
        exact law_xcb rfl (h.get 2 rfl) (h.get 4 rfl) (h.get 3 rfl) h.defers fun A c ha => ⟨A, c, rfl, ha.mono fun b hb => ⟨by have := hb.1; omega, hb.2.1⟩, h.world⟩
  · rw [hc] at h
    refine bArity2b_region p0 l0 nb r  hr h ?_
    intro a w1 h
    show Code.wp _ _ _ a w1
    refine env_cond (b := true) rfl h ?_
    have h := h.keep [2, 990, 4, 5, 3]
    show Code.wp _ _ _ a w1
    refine wp_seq ?_
    have h := h.keep [990, 4, 5, 3]
    refine bArity3a_region p0 l0 nb r  hr h ?_
    intro a w1 h
    show Code.wp _ _ _ a w1
    have ev : Bl.arity p0 l0 = (0, ((((Bl.int p0 l0).2.1).1, ((Bl.int p0 l0).2.1).2), false)) := by simp [Bl.arity, hc]
    rw [ev]
    refine wp_ret ?_
    (try simp only [then_ret, block_ret])
    exact law_xcb rfl (h.get 2 rfl) (h.get 4 rfl) (h.get 3 rfl) h.defers fun A c ha => ⟨A, c, rfl, ha.mono fun b hb => ⟨by have := hb.1; omega, hb.2.1⟩, h.world⟩
section
variable {ops : Array Oper} {Q : Exit → Act → World → Prop} {E : Nat → Kd} {D : Nat → Nat} {base : Nat → Option Kd} {N : Nat}
theorem step_bArity {i : Nat} {n g : Nat} {G : Option Nat} {x0 : Operand} {p0 : Pay} {l0 : Fo} (hop : (ops[i]?).map (·.op) = some (.call { callee := .value (.func 77), args := #[x0], argTypes := #[24] })) (h0 : Opd ops E D base N i x0 (.term p0 l0)) (hg : Opd ops E D base N i (.tmp g) (.sat (gP n G))) (hE : E i = .sat (nT3 n G (.int .i64 (Bl.arity p0 l0).1) ((Bl.arity p0 l0).2.1).1 ((Bl.arity p0 l0).2.1).2 ((Bl.arity p0 l0).2.2))) : Step Try.prog ops Q E D base N i :=
  step_mkXB hop (fun _ _ => by kernel_rfl) hg (fun a w h => by
    obtain ⟨A0, c0, e0, ha0⟩ := h0 a w h
    rw [show (#[x0] : Array Operand).map a.eval = #[tv p0 A0 (Tm.len l0) c0] by rw [← e0]; simp]
    exact bArity_any p0 l0 A0 c0 w.heap.size w ha0 (Nat.le_refl _)) hE
end
noncomputable def bFormal0Ops : Array Oper := ((Try.f32.body).bind (findReg 0)).getD #[]
noncomputable def bFormal1Ops : Array Oper := ((Try.f32.body).bind (findReg 1)).getD #[]
noncomputable def bFormal2Ops : Array Oper := ((Try.f32.body).bind (findReg 2)).getD #[]
noncomputable def bFormal3Ops : Array Oper := ((Try.f32.body).bind (findReg 3)).getD #[]
theorem bFormal_body : Try.f32.body = some (.seq (.region 0 bFormal0Ops false) (.seq (.seq (.region 1 bFormal1Ops false) (.cond (.tmp 11) (.seq (.region 2 bFormal2Ops false) .ret) .skip)) (.seq (.region 3 bFormal3Ops false) .ret))) := by kernel_rfl
theorem bFormal0a_region {Q : Exit → Act → World → Prop} (p0 : Pay) (l0 : Fo) (nb : Nat)  {w0 : World} {a : Act} {w : World} (hn : nb ≤ w0.heap.size) (h : Hold 18 [(0, .term p0 l0)] w0 a w)
    (hQ : ∀ r a' w', w0.heap.size ≤ r → Hold 18 [(1, .sat (nP 0 (some r) p0 l0)), (2, .sat (rC nb r zp .nil)), (990, .sat (gP nb (some r))), (3, .val (.bool false))] w0 a' w' → Q .normal a' w') : (Code.region 0 bFormal0Ops false).wp Try.prog Q a w := by
  refine region_seq (w0 := w) 3 (by kernel_rfl) ?_
  rw [show List.range 3 = [0, 1, 2] from rfl]
  refine env_one (i := 0) (d := 1) (k := .ptrT p0 l0) (step_box (by kernel_rfl) (Opd.of_base 0 rfl) rfl) (by kernel_rfl) (by decide) h ?_
  clear h
  intro a w h
  refine env_res (i := 1) (d := 2) (n := nb) (fun r => [(0, .sat (nT 0 (some r) p0 l0)), (1, .sat (nP 0 (some r) p0 l0))]) (by kernel_rfl) (by decide) (by decide) hn (fun r => (goes_cons 0 rfl (turns_term _ _ _) (goes_cons 1 rfl (turns_ptr _ _ _) (goes_nil _ _)))) h ?_
  clear h
  intro r a w hr h
  refine env_one (i := 2) (d := 3) (k := .val (.bool false)) (step_assign (by kernel_rfl) (Opd.const _) rfl) (by kernel_rfl) (by decide) h ?_
  clear h
  intro a w h
  exact hQ r a w hr (h.keep [1, 2, 990, 3])
theorem bFormal1a_region {Q : Exit → Act → World → Prop} (p0 : Pay) (l0 : Fo) (nb r : Nat) (hv : Tm.validB p0 l0 = false) {w0 : World} {a : Act} {w : World} (hr : w0.heap.size ≤ r) (h : Hold 18 [(1, .sat (nP 0 (some r) p0 l0)), (2, .sat (rC nb r zp .nil)), (990, .sat (gP nb (some r))), (3, .val (.bool false))] w0 a w)
    (hQ : ∀ a' w', Hold 18 [(1, .sat (nP 0 (some r) p0 l0)), (2, .sat (rC nb r zp .nil)), (990, .sat (gP nb (some r))), (3, .val (.bool false)), (11, .val (.bool true))] w0 a' w' → Q .normal a' w') : (Code.region 1 bFormal1Ops false).wp Try.prog Q a w := by
  refine region_seq (w0 := w) 8 (by kernel_rfl) ?_
  rw [show List.range 8 = [0, 1, 2, 3, 4, 5, 6, 7] from rfl]
  refine env_one (i := 0) (d := 4) (k := .sat (nT 0 (some r) p0 l0)) (step_nload (by kernel_rfl) (Opd.of_base 1 rfl) rfl) (by kernel_rfl) (by decide) h ?_
  clear h
  intro a w h
  refine env_one (i := 1) (d := 5) (k := .val (.bool false)) (step_valid6 (by kernel_rfl) (Opd.ofT (Opd.of_base 4 rfl)) (by rw [hv]; rfl)) (by kernel_rfl) (by decide) h ?_
  clear h
  intro a w h
  refine env_one (i := 2) (d := 6) (k := .val (.bool true)) (step_not (by kernel_rfl) (Opd.of_base 5 rfl) rfl) (by kernel_rfl) (by decide) h ?_
  clear h
  intro a w h
  refine env_one (i := 3) (d := 7) (k := .val (.bool true)) (step_move (by kernel_rfl) (Opd.of_base 6 rfl) rfl) (by kernel_rfl) (by decide) h ?_
  clear h
  intro a w h
  refine env_skip (i := 4) (d := 8) (g := 3) (dg := 7) (b := false) (by kernel_rfl) (by decide) (by kernel_rfl) rfl rfl h ?_
  clear h
  intro a w h
  refine env_skip (i := 5) (d := 9) (g := 3) (dg := 7) (b := false) (by kernel_rfl) (by decide) (by kernel_rfl) rfl rfl h ?_
  clear h
  intro a w h
  refine env_skip (i := 6) (d := 10) (g := 3) (dg := 7) (b := false) (by kernel_rfl) (by decide) (by kernel_rfl) rfl rfl h ?_
  clear h
  intro a w h
  refine env_one (i := 7) (d := 11) (k := .val (.bool true)) (step_pick_yes (y := .tmp 10) (by kernel_rfl) (Opd.of_base 7 rfl) (Opd.const _) rfl) (by kernel_rfl) (by decide) h ?_
  clear h
  intro a w h
  exact hQ a w (h.keep [1, 2, 990, 3, 11])
theorem bFormal2a_region {Q : Exit → Act → World → Prop} (p0 : Pay) (l0 : Fo) (nb r : Nat)  {w0 : World} {a : Act} {w : World} (hr : w0.heap.size ≤ r) (h : Hold 18 [(1, .sat (nP 0 (some r) p0 l0)), (2, .sat (rC nb r zp .nil)), (990, .sat (gP nb (some r))), (3, .val (.bool false))] w0 a w)
    (hQ : ∀ a' w', Hold 18 [(1, .sat (nP 0 (some r) p0 l0)), (990, .sat (gP nb (some r))), (3, .val (.bool false)), (2, .sat (rC nb r zp .nil))] w0 a' w' → Q .normal a' w') : (Code.region 2 bFormal2Ops false).wp Try.prog Q a w := by
  refine region_seq (w0 := w) 3 (by kernel_rfl) ?_
  rw [show List.range 3 = [0, 1, 2] from rfl]
  refine env_one (i := 0) (d := 12) (k := .sat (nT nb (some r) zp .nil)) (step_nzero (by kernel_rfl) rfl) (by kernel_rfl) (by decide) h ?_
  clear h
  intro a w h
  refine env_store (i := 1) (x := 2) (y := 12) (r := r) [(1, .sat (nP 0 (some r) p0 l0)), (990, .sat (gP nb (some r))), (3, .val (.bool false)), (12, .sat (nT nb (some r) zp .nil))] (by kernel_rfl) rfl rfl hr (stays_cons 1 rfl (away_nP _ _ _ _) (stays_cons 990 rfl (away_gP _ _ _) (stays_cons 3 rfl (away_val _ _) (stays_cons 12 rfl (away_nT _ _ _ _) (stays_nil _ _))))) h ?_
  clear h
  intro a w h
  refine env_one (i := 2) (d := 3) (k := .val (.bool false)) (step_assign (by kernel_rfl) (Opd.const _) rfl) (by kernel_rfl) (by decide) h ?_
  clear h
  intro a w h
  exact hQ a w (h.keep [1, 990, 3, 2])
theorem bFormal1b_region {Q : Exit → Act → World → Prop} (p0 : Pay) (l0 : Fo) (nb r : Nat) (hv : Tm.validB p0 l0 = true) (hs : Bl.isS p0 l0 ⟨#[101, 114, 114, 111, 114]⟩ 2 = false) {w0 : World} {a : Act} {w : World} (hr : w0.heap.size ≤ r) (h : Hold 18 [(1, .sat (nP 0 (some r) p0 l0)), (2, .sat (rC nb r zp .nil)), (990, .sat (gP nb (some r))), (3, .val (.bool false))] w0 a w)
    (hQ : ∀ a' w', Hold 18 [(1, .sat (nP 0 (some r) p0 l0)), (2, .sat (rC nb r zp .nil)), (990, .sat (gP nb (some r))), (3, .val (.bool false)), (11, .val (.bool true))] w0 a' w' → Q .normal a' w') : (Code.region 1 bFormal1Ops false).wp Try.prog Q a w := by
  refine region_seq (w0 := w) 8 (by kernel_rfl) ?_
  rw [show List.range 8 = [0, 1, 2, 3, 4, 5, 6, 7] from rfl]
  refine env_one (i := 0) (d := 4) (k := .sat (nT 0 (some r) p0 l0)) (step_nload (by kernel_rfl) (Opd.of_base 1 rfl) rfl) (by kernel_rfl) (by decide) h ?_
  clear h
  intro a w h
  refine env_one (i := 1) (d := 5) (k := .val (.bool true)) (step_valid6 (by kernel_rfl) (Opd.ofT (Opd.of_base 4 rfl)) (by rw [hv]; rfl)) (by kernel_rfl) (by decide) h ?_
  clear h
  intro a w h
  refine env_one (i := 2) (d := 6) (k := .val (.bool false)) (step_not (by kernel_rfl) (Opd.of_base 5 rfl) rfl) (by kernel_rfl) (by decide) h ?_
  clear h
  intro a w h
  refine env_one (i := 3) (d := 7) (k := .val (.bool false)) (step_move (by kernel_rfl) (Opd.of_base 6 rfl) rfl) (by kernel_rfl) (by decide) h ?_
  clear h
  intro a w h
  refine env_guard (i := 4) (d := 8) (g := 3) (dg := 7) (b := false) (k := .sat (nT 0 (some r) p0 l0)) (step_nload (by kernel_rfl) (Opd.of_base 1 rfl) rfl) (by kernel_rfl) (by decide) (by kernel_rfl) (by decide) rfl h ?_
  clear h
  intro a w h
  refine env_guard (i := 5) (d := 9) (g := 3) (dg := 7) (b := false) (k := .val (.bool false)) (step_bIs (by kernel_rfl) (Opd.ofT (Opd.of_base 8 rfl)) (Opd.const _) (Opd.const _) (by rw [hs]; rfl)) (by kernel_rfl) (by decide) (by kernel_rfl) (by decide) rfl h ?_
  clear h
  intro a w h
  refine env_guard (i := 6) (d := 10) (g := 3) (dg := 7) (b := false) (k := .val (.bool true)) (step_not (by kernel_rfl) (Opd.of_base 9 rfl) rfl) (by kernel_rfl) (by decide) (by kernel_rfl) (by decide) rfl h ?_
  clear h
  intro a w h
  refine env_one (i := 7) (d := 11) (k := .val (.bool true)) (step_pick_no (x := .const (.bool true)) (by kernel_rfl) (Opd.of_base 7 rfl) (Opd.of_base 10 rfl) rfl) (by kernel_rfl) (by decide) h ?_
  clear h
  intro a w h
  exact hQ a w (h.keep [1, 2, 990, 3, 11])
theorem bFormal1c_region {Q : Exit → Act → World → Prop} (p0 : Pay) (l0 : Fo) (nb r : Nat) (hv : Tm.validB p0 l0 = true) (hs : Bl.isS p0 l0 ⟨#[101, 114, 114, 111, 114]⟩ 2 = true) {w0 : World} {a : Act} {w : World} (hr : w0.heap.size ≤ r) (h : Hold 18 [(1, .sat (nP 0 (some r) p0 l0)), (2, .sat (rC nb r zp .nil)), (990, .sat (gP nb (some r))), (3, .val (.bool false))] w0 a w)
    (hQ : ∀ a' w', Hold 18 [(1, .sat (nP 0 (some r) p0 l0)), (2, .sat (rC nb r zp .nil)), (990, .sat (gP nb (some r))), (3, .val (.bool false)), (11, .val (.bool false))] w0 a' w' → Q .normal a' w') : (Code.region 1 bFormal1Ops false).wp Try.prog Q a w := by
  refine region_seq (w0 := w) 8 (by kernel_rfl) ?_
  rw [show List.range 8 = [0, 1, 2, 3, 4, 5, 6, 7] from rfl]
  refine env_one (i := 0) (d := 4) (k := .sat (nT 0 (some r) p0 l0)) (step_nload (by kernel_rfl) (Opd.of_base 1 rfl) rfl) (by kernel_rfl) (by decide) h ?_
  clear h
  intro a w h
  refine env_one (i := 1) (d := 5) (k := .val (.bool true)) (step_valid6 (by kernel_rfl) (Opd.ofT (Opd.of_base 4 rfl)) (by rw [hv]; rfl)) (by kernel_rfl) (by decide) h ?_
  clear h
  intro a w h
  refine env_one (i := 2) (d := 6) (k := .val (.bool false)) (step_not (by kernel_rfl) (Opd.of_base 5 rfl) rfl) (by kernel_rfl) (by decide) h ?_
  clear h
  intro a w h
  refine env_one (i := 3) (d := 7) (k := .val (.bool false)) (step_move (by kernel_rfl) (Opd.of_base 6 rfl) rfl) (by kernel_rfl) (by decide) h ?_
  clear h
  intro a w h
  refine env_guard (i := 4) (d := 8) (g := 3) (dg := 7) (b := false) (k := .sat (nT 0 (some r) p0 l0)) (step_nload (by kernel_rfl) (Opd.of_base 1 rfl) rfl) (by kernel_rfl) (by decide) (by kernel_rfl) (by decide) rfl h ?_
  clear h
  intro a w h
  refine env_guard (i := 5) (d := 9) (g := 3) (dg := 7) (b := false) (k := .val (.bool true)) (step_bIs (by kernel_rfl) (Opd.ofT (Opd.of_base 8 rfl)) (Opd.const _) (Opd.const _) (by rw [hs]; rfl)) (by kernel_rfl) (by decide) (by kernel_rfl) (by decide) rfl h ?_
  clear h
  intro a w h
  refine env_guard (i := 6) (d := 10) (g := 3) (dg := 7) (b := false) (k := .val (.bool false)) (step_not (by kernel_rfl) (Opd.of_base 9 rfl) rfl) (by kernel_rfl) (by decide) (by kernel_rfl) (by decide) rfl h ?_
  clear h
  intro a w h
  refine env_one (i := 7) (d := 11) (k := .val (.bool false)) (step_pick_no (x := .const (.bool true)) (by kernel_rfl) (Opd.of_base 7 rfl) (Opd.of_base 10 rfl) rfl) (by kernel_rfl) (by decide) h ?_
  clear h
  intro a w h
  exact hQ a w (h.keep [1, 2, 990, 3, 11])
theorem bFormal3a_region {Q : Exit → Act → World → Prop} (p0 : Pay) (l0 : Fo) (nb r : Nat) (hl2 : Tm.len l0 = 2) {w0 : World} {a : Act} {w : World} (hr : w0.heap.size ≤ r) (h : Hold 18 [(1, .sat (nP 0 (some r) p0 l0)), (2, .sat (rC nb r zp .nil)), (990, .sat (gP nb (some r))), (3, .val (.bool false))] w0 a w)
    (hQ : ∀ a' w', Hold 18 [(990, .sat (gP nb (some r))), (3, .val (.bool true)), (2, .sat (rC nb r ((Tm.cloneOf ((Bl.arg0 l0).1) ((Bl.arg0 l0).2)).1) ((Tm.cloneOf ((Bl.arg0 l0).1) ((Bl.arg0 l0).2)).2)))] w0 a' w' → Q .normal a' w') : (Code.region 3 bFormal3Ops false).wp Try.prog Q a w := by
  refine region_seq (w0 := w) 7 (by kernel_rfl) ?_
  rw [show List.range 7 = [0, 1, 2, 3, 4, 5, 6] from rfl]
  refine env_one (i := 0) (d := 13) (k := .sat (nQ 0 (some r) l0)) (step_nfield3 (by kernel_rfl) (Opd.of_base 1 rfl) rfl) (by kernel_rfl) (by decide) h ?_
  clear h
  intro a w h
  refine env_one (i := 1) (d := 14) (k := .sat (nR 0 (some r) l0)) (step_nload_row (by kernel_rfl) (Opd.of_base 13 rfl) rfl) (by kernel_rfl) (by decide) h ?_
  clear h
  intro a w h
  refine env_one (i := 2) (d := 15) (k := .sat (nP 0 (some r) ((Bl.arg0 l0).1) ((Bl.arg0 l0).2))) (step_nindex (k := 0) (r := (Tm.dropF l0 1)) (by kernel_rfl) (Opd.of_base 14 rfl) (Opd.const _) (Bl.drop0 hl2) rfl) (by kernel_rfl) (by decide) h ?_
  clear h
  intro a w h
  refine env_one (i := 3) (d := 16) (k := .sat (nT 0 (some r) ((Bl.arg0 l0).1) ((Bl.arg0 l0).2))) (step_nload (by kernel_rfl) (Opd.of_base 15 rfl) rfl) (by kernel_rfl) (by decide) h ?_
  clear h
  intro a w h
  refine env_one (i := 4) (d := 17) (k := .sat (nT nb (some r) ((Tm.cloneOf ((Bl.arg0 l0).1) ((Bl.arg0 l0).2)).1) ((Tm.cloneOf ((Bl.arg0 l0).1) ((Bl.arg0 l0).2)).2))) (step_clone (g := 990) (by kernel_rfl) (Opd.ofT (Opd.of_base 16 rfl)) (Opd.of_base 990 rfl) rfl) (by kernel_rfl) (by decide) h ?_
  clear h
  intro a w h
  refine env_store (i := 5) (x := 2) (y := 17) (r := r) [(1, .sat (nP 0 (some r) p0 l0)), (990, .sat (gP nb (some r))), (3, .val (.bool false)), (14, .sat (nR 0 (some r) l0)), (15, .sat (nP 0 (some r) ((Bl.arg0 l0).1) ((Bl.arg0 l0).2))), (16, .sat (nT 0 (some r) ((Bl.arg0 l0).1) ((Bl.arg0 l0).2))), (17, .sat (nT nb (some r) ((Tm.cloneOf ((Bl.arg0 l0).1) ((Bl.arg0 l0).2)).1) ((Tm.cloneOf ((Bl.arg0 l0).1) ((Bl.arg0 l0).2)).2)))] (by kernel_rfl) rfl rfl hr (stays_cons 1 rfl (away_nP _ _ _ _) (stays_cons 990 rfl (away_gP _ _ _) (stays_cons 3 rfl (away_val _ _) (stays_cons 14 rfl (away_nR _ _ _) (stays_cons 15 rfl (away_nP _ _ _ _) (stays_cons 16 rfl (away_nT _ _ _ _) (stays_cons 17 rfl (away_nT _ _ _ _) (stays_nil _ _)))))))) h ?_
  clear h
  intro a w h
  refine env_one (i := 6) (d := 3) (k := .val (.bool true)) (step_assign (by kernel_rfl) (Opd.const _) rfl) (by kernel_rfl) (by decide) h ?_
  clear h
  intro a w h
  exact hQ a w (h.keep [990, 3, 2])
set_option maxHeartbeats 1000000 in
theorem bFormal_any (p0 : Pay) (l0 : Fo) (A0 : Option Addr) (c0 : Nat) (B : Nat) (w : World) (hA0 : ArgsB w B A0 (Tm.len l0) l0) (hB : B ≤ w.heap.size)  : Calls Try.prog 32 #[tv p0 A0 (Tm.len l0) c0] w (MkB w.heap.size ((Bl.formal p0 l0).1).1 ((Bl.formal p0 l0).1).2 ((Bl.formal p0 l0).2) w) := by
  refine calls_of_wp Try.func32 bFormal_body ?_
  obtain ⟨v0, hv0⟩ : ∃ v : Value, v = tv p0 A0 (Tm.len l0) c0 := ⟨_, rfl⟩
  rw [← hv0]
  have hk0 : (Kd.term p0 l0).R v0 w := by rw [hv0]; exact ⟨A0, c0, rfl, hA0.up hB⟩
  have hsN : (#[v0] ++ Array.replicate (Try.f32.ntmps - #[v0].size) undef : Array Value).size = 18 := by kernel_rfl
  have gs0 : (#[v0] ++ Array.replicate (Try.f32.ntmps - #[v0].size) undef : Array Value).getD 0 undef = v0 := by kernel_rfl
  generalize (#[v0] ++ Array.replicate (Try.f32.ntmps - #[v0].size) undef : Array Value) = tm at hsN gs0 ⊢
  obtain ⟨a, ha0⟩ : ∃ a : Act, a = ⟨tm, []⟩ := ⟨_, rfl⟩
  have h : Hold 18 [(0, .term p0 l0)] w ⟨tm, []⟩ w := ⟨hsN, rfl, Below.refl _ _, (slots_cons 0 (by rw [gs0]; exact hk0) slots_nil)⟩
  obtain ⟨nb, hnb⟩ : ∃ nb, nb = w.heap.size := ⟨_, rfl⟩
  have hn : nb ≤ w.heap.size := by omega
  refine wp_seq ?_
  refine bFormal0a_region p0 l0 nb  hn h ?_
  intro r a w1 hr h
  show Code.wp _ _ _ a w1
  refine wp_seq ?_
  refine wp_seq ?_
  rcases Bool.eq_false_or_eq_true (Tm.validB p0 l0) with hv | hv
  rotate_left
  · refine bFormal1a_region p0 l0 nb r hv hr h ?_
    intro a w1 h
    show Code.wp _ _ _ a w1
    refine env_cond (b := true) rfl h ?_
    have h := h.keep [1, 2, 990, 3]
    show Code.wp _ _ _ a w1
    refine wp_seq ?_
    refine bFormal2a_region p0 l0 nb r  hr h ?_
    intro a w1 h
    show Code.wp _ _ _ a w1
    have ev : Bl.formal p0 l0 = ((zp, .nil), false) := by simp [Bl.formal, hv]
    rw [ev]
    refine wp_ret ?_
    (try simp only [then_ret, block_ret])
    exact law_cb rfl (h.get 3 rfl) (h.get 2 rfl) h.defers fun A c ha => ⟨A, c, rfl, ha.mono fun b hb => ⟨by have := hb.1; omega, hb.2.1⟩, h.world⟩
  rcases Bool.eq_false_or_eq_true (Bl.isS p0 l0 ⟨#[101, 114, 114, 111, 114]⟩ 2) with hs | hs
  rotate_left
  · refine bFormal1b_region p0 l0 nb r hv hs hr h ?_
    intro a w1 h
    show Code.wp _ _ _ a w1
    refine env_cond (b := true) rfl h ?_
    have h := h.keep [1, 2, 990, 3]
    show Code.wp _ _ _ a w1
    refine wp_seq ?_
    refine bFormal2a_region p0 l0 nb r  hr h ?_
    intro a w1 h
    show Code.wp _ _ _ a w1
    have ev : Bl.formal p0 l0 = ((zp, .nil), false) := by simp [Bl.formal, hv, hs]
    rw [ev]
    refine wp_ret ?_
    (try simp only [then_ret, block_ret])
    exact law_cb rfl (h.get 3 rfl) (h.get 2 rfl) h.defers fun A c ha => ⟨A, c, rfl, ha.mono fun b hb => ⟨by have := hb.1; omega, hb.2.1⟩, h.world⟩
  · refine bFormal1c_region p0 l0 nb r hv hs hr h ?_
    intro a w1 h
    show Code.wp _ _ _ a w1
    refine env_cond (b := false) rfl h ?_
    refine wp_skip ?_
    have h := h.keep [1, 2, 990, 3]
    show Code.wp _ _ _ a w1
    refine wp_seq ?_
    have hl2 : Tm.len l0 = 2 := Bl.isS_len hs
    refine bFormal3a_region p0 l0 nb r hl2 hr h ?_
    intro a w1 h
    show Code.wp _ _ _ a w1
    have ev : Bl.formal p0 l0 = (((Tm.cloneOf ((Bl.arg0 l0).1) ((Bl.arg0 l0).2)).1, (Tm.cloneOf ((Bl.arg0 l0).1) ((Bl.arg0 l0).2)).2), true) := by simp [Bl.formal, hv, hs]
    rw [ev]
    refine wp_ret ?_
    (try simp only [then_ret, block_ret])
    exact law_cb rfl (h.get 3 rfl) (h.get 2 rfl) h.defers fun A c ha => ⟨A, c, rfl, ha.mono fun b hb => ⟨by have := hb.1; omega, hb.2.1⟩, h.world⟩
section
variable {ops : Array Oper} {Q : Exit → Act → World → Prop} {E : Nat → Kd} {D : Nat → Nat} {base : Nat → Option Kd} {N : Nat}
theorem step_bFormal {i : Nat} {n g : Nat} {G : Option Nat} {x0 : Operand} {p0 : Pay} {l0 : Fo} (hop : (ops[i]?).map (·.op) = some (.call { callee := .value (.func 32), args := #[x0], argTypes := #[24] })) (h0 : Opd ops E D base N i x0 (.term p0 l0)) (hg : Opd ops E D base N i (.tmp g) (.sat (gP n G))) (hE : E i = .sat (nT2 n G ((Bl.formal p0 l0).1).1 ((Bl.formal p0 l0).1).2 ((Bl.formal p0 l0).2))) : Step Try.prog ops Q E D base N i :=
  step_mkB hop (fun _ _ => by kernel_rfl) hg (fun a w h => by
    obtain ⟨A0, c0, e0, ha0⟩ := h0 a w h
    rw [show (#[x0] : Array Operand).map a.eval = #[tv p0 A0 (Tm.len l0) c0] by rw [← e0]; simp]
    exact bFormal_any p0 l0 A0 c0 w.heap.size w ha0 (Nat.le_refl _)) hE
end
end Go.Proofs.Ytapcnehpechkpaa
