/-
  Package balls: the makers of error terms.
-/
import Derived.Test.YtapcnehpechkpaaErr
namespace Go.Proofs.Ytapcnehpechkpaa
set_option linter.unusedVariables false
set_option linter.unusedSimpArgs false
set_option maxRecDepth 100000
open Go.RowKit
/-- The operations of a function's region, wherever it stands. -/
def findReg (id : Nat) : Code → Option (Array Oper)
  | .region k ops _ => if k = id then some ops else none
  | .seq a b => match findReg id a with
    | some r => some r
    | none => findReg id b
  | .cond _ a b => match findReg id a with
    | some r => some r
    | none => findReg id b
  | .block _ a => findReg id a
  | .loop a => findReg id a
  | _ => none
theorem below_succ {S : Nat → Prop} {n : Nat} (h : ∀ i, i < n → S i) (hn : S n) : ∀ i, i < n + 1 → S i := fun i hi => by
  by_cases he : i = n
  · subst he; exact hn
  · exact h i (by omega)
namespace Bl
def instN : ByteArray := ⟨#[105, 110, 115, 116, 97, 110, 116, 105, 97, 116, 105, 111, 110, 95, 101, 114, 114, 111, 114]⟩
def unN : ByteArray := ⟨#[117, 110, 105, 110, 115, 116, 97, 110, 116, 105, 97, 116, 105, 111, 110, 95, 101, 114, 114, 111, 114]⟩
def tyN : ByteArray := ⟨#[116, 121, 112, 101, 95, 101, 114, 114, 111, 114]⟩
def domN : ByteArray := ⟨#[100, 111, 109, 97, 105, 110, 95, 101, 114, 114, 111, 114]⟩
def extN : ByteArray := ⟨#[101, 120, 105, 115, 116, 101, 110, 99, 101, 95, 101, 114, 114, 111, 114]⟩
def permN : ByteArray := ⟨#[112, 101, 114, 109, 105, 115, 115, 105, 111, 110, 95, 101, 114, 114, 111, 114]⟩
def repN : ByteArray := ⟨#[114, 101, 112, 114, 101, 115, 101, 110, 116, 97, 116, 105, 111, 110, 95, 101, 114, 114, 111, 114]⟩
def evN : ByteArray := ⟨#[101, 118, 97, 108, 117, 97, 116, 105, 111, 110, 95, 101, 114, 114, 111, 114]⟩
def synN : ByteArray := ⟨#[115, 121, 110, 116, 97, 120, 95, 101, 114, 114, 111, 114]⟩
def at1 (k : ByteArray) (F : Fo) : Fo := .node (2, 0, k) .nil F
def inst : Pay × Fo := Tm.errOf instN .nil
def un (p : Pay) (l : Fo) : Pay × Fo := Tm.errOf unN (.node p l .nil)
def ty (k : ByteArray) (p : Pay) (l : Fo) : Pay × Fo := Tm.errOf tyN (at1 k (.node p l .nil))
def dom (k : ByteArray) (p : Pay) (l : Fo) : Pay × Fo := Tm.errOf domN (at1 k (.node p l .nil))
def ext (k : ByteArray) (p : Pay) (l : Fo) : Pay × Fo := Tm.errOf extN (at1 k (.node p l .nil))
def perm (a k : ByteArray) (p : Pay) (l : Fo) : Pay × Fo := Tm.errOf permN (at1 a (at1 k (.node p l .nil)))
def rep (k : ByteArray) : Pay × Fo := Tm.errOf repN (at1 k .nil)
def ev (k : ByteArray) : Pay × Fo := Tm.errOf evN (at1 k .nil)
def syn (z : Int) : Pay × Fo := if z < 0 then (zp, .nil) else Tm.errOf synN (.node (Tm.cloneOf (1, z, ByteArray.empty) .nil).1 (Tm.cloneOf (1, z, ByteArray.empty) .nil).2 .nil)
end Bl
theorem errT_any (s0 : ByteArray) (F1 : Fo) (A1 : Option Addr) (c1 B : Nat) (w : World) (hA1 : ArgsB w B A1 (Tm.len F1) F1) (hcap1 : Tm.len F1 ≤ c1) (hB : B ≤ w.heap.size) (hn : Tm.len F1 ≤ 100) : Calls Try.prog 61 #[.string s0, .slice A1 (Tm.len F1) c1] w (Makes (Tm.errOf s0 F1).1 (Tm.errOf s0 F1).2 w) := errorTerm_any s0 F1 A1 (Tm.len F1) c1 B w hA1 hn hcap1 hB
theorem atN_any (s : ByteArray) (w : World) : Calls Try.prog 62 #[.string s] w (Makes (2, 0, s) .nil w) := (atomNamed_any s w).mono fun e w' ⟨he, hb⟩ => ⟨none, 0, he, ArgsIn.nil _ _ _, hb⟩
theorem isVar_any' (p : Pay) (l : Fo) (A : Option Addr) (c B : Nat) (w : World) (hA : ArgsB w B A (Tm.len l) l) (hB : B ≤ w.heap.size) : Calls Try.prog 76 #[tv p A (Tm.len l) c] w fun e w' => e = .returned (.bool (decide (p.1 = 0))) ∧ Below w.heap.size w w' := isVariable_any p A (Tm.len l) c w
section
variable {ops : Array Oper} {Q : Exit → Act → World → Prop} {E : Nat → Kd} {D : Nat → Nat} {base : Nat → Option Kd} {N : Nat}
theorem Opd.gp0 {i t n : Nat} {G : Option Nat} (h : Opd ops E D base N i (.tmp t) (.sat (gP n G))) : Opd ops E D base N i (.tmp t) (.sat (gP 0 G)) := fun a w hc => ⟨Nat.zero_le _, (h a w hc).2⟩
theorem step_errT {i : Nat} {n g : Nat} {G : Option Nat} {x0 x1 : Operand} {s0 : ByteArray} {F1 : Fo} {m1 : Nat} {H1 : Option Nat} (hn : Tm.len F1 ≤ 100) (hop : (ops[i]?).map (·.op) = some (.call { callee := .value (.func 61), args := #[x0, x1], argTypes := #[9, 22] })) (h0 : Opd ops E D base N i x0 (.val (.string s0))) (h1 : Opd ops E D base N i x1 (.sat (nK m1 H1 F1))) (hg : Opd ops E D base N i (.tmp g) (.sat (gP n G))) (hE : E i = .sat (nT n G (Tm.errOf s0 F1).1 (Tm.errOf s0 F1).2)) : Step Try.prog ops Q E D base N i :=
  step_mk hop (fun _ _ => by kernel_rfl) hg (fun a w h => by
    have e0 : a.eval x0 = .string s0 := h0 a w h
    obtain ⟨A1, c1, e1, hcap1, ha1⟩ := h1 a w h
    rw [show (#[x0, x1] : Array Operand).map a.eval = #[.string s0, .slice A1 (Tm.len F1) c1] by rw [← e0, ← e1]; simp]
    exact errT_any s0 F1 A1 c1 w.heap.size w ha1.low hcap1 (Nat.le_refl _) hn) hE
theorem step_atN {i : Nat} {n g : Nat} {G : Option Nat} {x0 : Operand} {s0 : ByteArray} (hop : (ops[i]?).map (·.op) = some (.call { callee := .value (.func 62), args := #[x0], argTypes := #[9] })) (h0 : Opd ops E D base N i x0 (.val (.string s0))) (hg : Opd ops E D base N i (.tmp g) (.sat (gP n G))) (hE : E i = .sat (nT n G (2, 0, s0) .nil)) : Step Try.prog ops Q E D base N i :=
  step_mk hop (fun _ _ => by kernel_rfl) hg (fun a w h => by
    have e0 : a.eval x0 = .string s0 := h0 a w h
    rw [show (#[x0] : Array Operand).map a.eval = #[.string s0] by rw [← e0]; simp]
    exact atN_any s0 w ) hE
theorem step_isVar6 {i : Nat} {x0 : Operand} {p0 : Pay} {l0 : Fo} (hop : (ops[i]?).map (·.op) = some (.call { callee := .value (.func 76), args := #[x0], argTypes := #[24] })) (h0 : Opd ops E D base N i x0 (.term p0 l0)) (hE : E i = .val ((.bool (decide (p0.1 = 0))))) : Step Try.prog ops Q E D base N i :=
  step_call hop (fun _ _ => by kernel_rfl) fun a w h => by
    obtain ⟨A0, c0, e0, ha0⟩ := h0 a w h
    rw [show (#[x0] : Array Operand).map a.eval = #[tv p0 A0 (Tm.len l0) c0] by rw [← e0]; simp]
    exact (isVar_any' p0 l0 A0 c0 w.heap.size w ha0 (Nat.le_refl _)).mono fun e w' ⟨he, hbl⟩ => ⟨_, he, by rw [hE]; rfl, hbl⟩
theorem step_valid6 {i : Nat} {x0 : Operand} {p0 : Pay} {l0 : Fo} (hop : (ops[i]?).map (·.op) = some (.call { callee := .value (.func 70), args := #[x0], argTypes := #[24] })) (h0 : Opd ops E D base N i x0 (.term p0 l0)) (hE : E i = .val ((.bool (Tm.validB p0 l0)))) : Step Try.prog ops Q E D base N i :=
  step_call hop (fun _ _ => by kernel_rfl) fun a w h => by
    obtain ⟨A0, c0, e0, ha0⟩ := h0 a w h
    rw [show (#[x0] : Array Operand).map a.eval = #[tv p0 A0 (Tm.len l0) c0] by rw [← e0]; simp]
    exact (valid_any p0 l0 A0 c0 w.heap.size w ha0 (Nat.le_refl _)).mono fun e w' ⟨he, hbl⟩ => ⟨_, he, by rw [hE]; rfl, hbl⟩
theorem step_rvalid6 {i : Nat} {x0 : Operand} {p0 : Pay} {l0 : Fo} (hop : (ops[i]?).map (·.op) = some (.call { callee := .value (.func 51), args := #[x0], argTypes := #[24] })) (h0 : Opd ops E D base N i x0 (.term p0 l0)) (hE : E i = .val ((.bool (Tm.validB p0 l0)))) : Step Try.prog ops Q E D base N i :=
  step_call hop (fun _ _ => by kernel_rfl) fun a w h => by
    obtain ⟨A0, c0, e0, ha0⟩ := h0 a w h
    rw [show (#[x0] : Array Operand).map a.eval = #[tv p0 A0 (Tm.len l0) c0] by rw [← e0]; simp]
    exact (rvalid_any p0 l0 A0 c0 w.heap.size w ha0 (Nat.le_refl _)).mono fun e w' ⟨he, hbl⟩ => ⟨_, he, by rw [hE]; rfl, hbl⟩
theorem step_clone {i : Nat} {n g : Nat} {G : Option Nat} {x0 : Operand} {p0 : Pay} {l0 : Fo} (hop : (ops[i]?).map (·.op) = some (.call { callee := .value (.func 72), args := #[x0], argTypes := #[24] })) (h0 : Opd ops E D base N i x0 (.term p0 l0)) (hg : Opd ops E D base N i (.tmp g) (.sat (gP n G))) (hE : E i = .sat (nT n G (Tm.cloneOf p0 l0).1 (Tm.cloneOf p0 l0).2)) : Step Try.prog ops Q E D base N i :=
  step_mk hop (fun _ _ => by kernel_rfl) hg (fun a w h => by
    obtain ⟨A0, c0, e0, ha0⟩ := h0 a w h
    rw [show (#[x0] : Array Operand).map a.eval = #[tv p0 A0 (Tm.len l0) c0] by rw [← e0]; simp]
    exact clone_any p0 l0 A0 c0 w.heap.size w ha0 (Nat.le_refl _)) hE
theorem step_rclone {i : Nat} {n g : Nat} {G : Option Nat} {x0 : Operand} {p0 : Pay} {l0 : Fo} (hop : (ops[i]?).map (·.op) = some (.call { callee := .value (.func 52), args := #[x0], argTypes := #[24] })) (h0 : Opd ops E D base N i x0 (.term p0 l0)) (hg : Opd ops E D base N i (.tmp g) (.sat (gP n G))) (hE : E i = .sat (nT n G (Tm.cloneOf p0 l0).1 (Tm.cloneOf p0 l0).2)) : Step Try.prog ops Q E D base N i :=
  step_mk hop (fun _ _ => by kernel_rfl) hg (fun a w h => by
    obtain ⟨A0, c0, e0, ha0⟩ := h0 a w h
    rw [show (#[x0] : Array Operand).map a.eval = #[tv p0 A0 (Tm.len l0) c0] by rw [← e0]; simp]
    exact rclone_any p0 l0 A0 c0 w.heap.size w ha0 (Nat.le_refl _)) hE
theorem step_rsize {i : Nat} {x0 : Operand} {p0 : Pay} {l0 : Fo} (hop : (ops[i]?).map (·.op) = some (.call { callee := .value (.func 54), args := #[x0], argTypes := #[24] })) (h0 : Opd ops E D base N i x0 (.term p0 l0)) (hE : E i = .val ((.int .i64 ((Tm.sizeB l0 : Nat) : Int)))) : Step Try.prog ops Q E D base N i :=
  step_call hop (fun _ _ => by kernel_rfl) fun a w h => by
    obtain ⟨A0, c0, e0, ha0⟩ := h0 a w h
    rw [show (#[x0] : Array Operand).map a.eval = #[tv p0 A0 (Tm.len l0) c0] by rw [← e0]; simp]
    exact (rsize_any p0 l0 A0 c0 w.heap.size w ha0 (Nat.le_refl _)).mono fun e w' ⟨he, hbl⟩ => ⟨_, he, by rw [hE]; rfl, hbl⟩
theorem step_int {i : Nat} {n g : Nat} {G : Option Nat} {x0 : Operand} {s0 : Int} (hop : (ops[i]?).map (·.op) = some (.call { callee := .value (.func 63), args := #[x0], argTypes := #[2] })) (h0 : Opd ops E D base N i x0 (.val (.int .i64 s0))) (hg : Opd ops E D base N i (.tmp g) (.sat (gP n G))) (hE : E i = .sat (nT n G (Tm.cloneOf (1, s0, ByteArray.empty) .nil).1 (Tm.cloneOf (1, s0, ByteArray.empty) .nil).2)) : Step Try.prog ops Q E D base N i :=
  step_mk hop (fun _ _ => by kernel_rfl) hg (fun a w h => by
    have e0 : a.eval x0 = .int .i64 s0 := h0 a w h
    rw [show (#[x0] : Array Operand).map a.eval = #[.int .i64 s0] by rw [← e0]; simp]
    exact int_any s0 w ) hE
end
noncomputable def bInst0Ops : Array Oper := ((Try.f12.body).bind (findReg 0)).getD #[]
noncomputable def bInst1Ops : Array Oper := ((Try.f12.body).bind (findReg 1)).getD #[]
theorem bInst_body : Try.f12.body = some (.seq (.region 0 bInst0Ops false) (.seq (.region 1 bInst1Ops false) .ret)) := by kernel_rfl
theorem bInst0a_region {Q : Exit → Act → World → Prop}  (nb : Nat)  {w0 : World} {a : Act} {w : World} (hn : nb ≤ w0.heap.size) (h : Hold 2 [] w0 a w)
    (hQ : ∀ r a' w', w0.heap.size ≤ r → Hold 2 [(0, .sat (rC nb r zp .nil)), (990, .sat (gP nb (some r)))] w0 a' w' → Q .normal a' w') : (Code.region 0 bInst0Ops false).wp Try.prog Q a w := by
  refine region_seq (w0 := w) 1 (by kernel_rfl) ?_
  rw [show List.range 1 = [0] from rfl]
  refine env_res (i := 0) (d := 0) (n := nb) (fun r => []) (by kernel_rfl) (by decide) (by decide) hn (fun r => (goes_nil _ _)) h ?_
  clear h
  intro r a w hr h
  exact hQ r a w hr (h.keep [0, 990])
theorem bInst1a_region {Q : Exit → Act → World → Prop}  (nb r : Nat)  {w0 : World} {a : Act} {w : World} (hr : w0.heap.size ≤ r) (h : Hold 2 [(0, .sat (rC nb r zp .nil)), (990, .sat (gP nb (some r)))] w0 a w)
    (hQ : ∀ a' w', Hold 2 [(990, .sat (gP nb (some r))), (0, .sat (rC nb r ((Tm.errOf (⟨#[105, 110, 115, 116, 97, 110, 116, 105, 97, 116, 105, 111, 110, 95, 101, 114, 114, 111, 114]⟩) .nil).1) ((Tm.errOf (⟨#[105, 110, 115, 116, 97, 110, 116, 105, 97, 116, 105, 111, 110, 95, 101, 114, 114, 111, 114]⟩) .nil).2)))] w0 a' w' → Q .normal a' w') : (Code.region 1 bInst1Ops false).wp Try.prog Q a w := by
  refine region_seq (w0 := w) 2 (by kernel_rfl) ?_
  rw [show List.range 2 = [0, 1] from rfl]
  refine env_one (i := 0) (d := 1) (k := .sat (nT nb (some r) ((Tm.errOf (⟨#[105, 110, 115, 116, 97, 110, 116, 105, 97, 116, 105, 111, 110, 95, 101, 114, 114, 111, 114]⟩) .nil).1) ((Tm.errOf (⟨#[105, 110, 115, 116, 97, 110, 116, 105, 97, 116, 105, 111, 110, 95, 101, 114, 114, 111, 114]⟩) .nil).2))) (step_errT (Nat.le_of_ble_eq_true rfl) (g := 990) (by kernel_rfl) (Opd.const _) (Opd.nilK (n := 0) (G := none) (Opd.const _)) (Opd.of_base 990 rfl) rfl) (by kernel_rfl) (by decide) h ?_
  clear h
  intro a w h
  refine env_store (i := 1) (x := 0) (y := 1) (r := r) [(990, .sat (gP nb (some r))), (1, .sat (nT nb (some r) ((Tm.errOf (⟨#[105, 110, 115, 116, 97, 110, 116, 105, 97, 116, 105, 111, 110, 95, 101, 114, 114, 111, 114]⟩) .nil).1) ((Tm.errOf (⟨#[105, 110, 115, 116, 97, 110, 116, 105, 97, 116, 105, 111, 110, 95, 101, 114, 114, 111, 114]⟩) .nil).2)))] (by kernel_rfl) rfl rfl hr (stays_cons 990 rfl (away_gP _ _ _) (stays_cons 1 rfl (away_nT _ _ _ _) (stays_nil _ _))) h ?_
  clear h
  intro a w h
  exact hQ a w (h.keep [990, 0])
set_option maxHeartbeats 1000000 in
theorem bInst_any  (w : World)   : Calls Try.prog 12 #[] w (Makes Bl.inst.1 Bl.inst.2 w) := by
  refine calls_of_wp Try.func12 bInst_body ?_
  have hsN : ((#[] : Array Value) ++ Array.replicate (Try.f12.ntmps - (#[] : Array Value).size) undef : Array Value).size = 2 := by kernel_rfl
  generalize ((#[] : Array Value) ++ Array.replicate (Try.f12.ntmps - (#[] : Array Value).size) undef : Array Value) = tm at hsN  ⊢
  obtain ⟨a, ha0⟩ : ∃ a : Act, a = ⟨tm, []⟩ := ⟨_, rfl⟩
  have h : Hold 2 [] w ⟨tm, []⟩ w := ⟨hsN, rfl, Below.refl _ _, slots_nil⟩
  obtain ⟨nb, hnb⟩ : ∃ nb, nb = w.heap.size := ⟨_, rfl⟩
  have hn : nb ≤ w.heap.size := by omega
  refine wp_seq ?_
  refine bInst0a_region  nb  hn h ?_
  intro r a w1 hr h
  show Code.wp _ _ _ a w1
  refine wp_seq ?_
  refine bInst1a_region  nb r  hr h ?_
  intro a w1 h
  show Code.wp _ _ _ a w1
  refine wp_ret ?_
  (try simp only [then_ret, block_ret])
  exact law_cell rfl (h.get 0 rfl) h.defers fun A c ha => ⟨A, c, rfl, ha.mono fun b hb => ⟨by have := hb.1; omega, hb.2.1⟩, h.world⟩
section
variable {ops : Array Oper} {Q : Exit → Act → World → Prop} {E : Nat → Kd} {D : Nat → Nat} {base : Nat → Option Kd} {N : Nat}
theorem step_bInst {i : Nat} {n g : Nat} {G : Option Nat}  (hop : (ops[i]?).map (·.op) = some (.call { callee := .value (.func 12), args := #[], argTypes := #[] })) (hg : Opd ops E D base N i (.tmp g) (.sat (gP n G))) (hE : E i = .sat (nT n G Bl.inst.1 Bl.inst.2)) : Step Try.prog ops Q E D base N i :=
  step_mk hop (fun _ _ => by kernel_rfl) hg (fun a w h => by
    rw [show (#[] : Array Operand).map a.eval = #[] from by simp]
    exact bInst_any  w ) hE
end
noncomputable def bUn0Ops : Array Oper := ((Try.f13.body).bind (findReg 0)).getD #[]
noncomputable def bUn1Ops : Array Oper := ((Try.f13.body).bind (findReg 1)).getD #[]
theorem bUn_body : Try.f13.body = some (.seq (.region 0 bUn0Ops false) (.seq (.region 1 bUn1Ops false) .ret)) := by kernel_rfl
theorem bUn0a_region {Q : Exit → Act → World → Prop} (p0 : Pay) (l0 : Fo) (nb : Nat)  {w0 : World} {a : Act} {w : World} (hn : nb ≤ w0.heap.size) (h : Hold 6 [(0, .term p0 l0)] w0 a w)
    (hQ : ∀ r a' w', w0.heap.size ≤ r → Hold 6 [(1, .sat (nP 0 (some r) p0 l0)), (2, .sat (rC nb r zp .nil)), (990, .sat (gP nb (some r)))] w0 a' w' → Q .normal a' w') : (Code.region 0 bUn0Ops false).wp Try.prog Q a w := by
  refine region_seq (w0 := w) 2 (by kernel_rfl) ?_
  rw [show List.range 2 = [0, 1] from rfl]
  refine env_one (i := 0) (d := 1) (k := .ptrT p0 l0) (step_box (by kernel_rfl) (Opd.of_base 0 rfl) rfl) (by kernel_rfl) (by decide) h ?_
  clear h
  intro a w h
  refine env_res (i := 1) (d := 2) (n := nb) (fun r => [(0, .sat (nT 0 (some r) p0 l0)), (1, .sat (nP 0 (some r) p0 l0))]) (by kernel_rfl) (by decide) (by decide) hn (fun r => (goes_cons 0 rfl (turns_term _ _ _) (goes_cons 1 rfl (turns_ptr _ _ _) (goes_nil _ _)))) h ?_
  clear h
  intro r a w hr h
  exact hQ r a w hr (h.keep [1, 2, 990])
theorem bUn1a_region {Q : Exit → Act → World → Prop} (p0 : Pay) (l0 : Fo) (nb r : Nat)  {w0 : World} {a : Act} {w : World} (hr : w0.heap.size ≤ r) (h : Hold 6 [(1, .sat (nP 0 (some r) p0 l0)), (2, .sat (rC nb r zp .nil)), (990, .sat (gP nb (some r)))] w0 a w)
    (hQ : ∀ a' w', Hold 6 [(990, .sat (gP nb (some r))), (2, .sat (rC nb r ((Tm.errOf (⟨#[117, 110, 105, 110, 115, 116, 97, 110, 116, 105, 97, 116, 105, 111, 110, 95, 101, 114, 114, 111, 114]⟩) (.node p0 l0 .nil)).1) ((Tm.errOf (⟨#[117, 110, 105, 110, 115, 116, 97, 110, 116, 105, 97, 116, 105, 111, 110, 95, 101, 114, 114, 111, 114]⟩) (.node p0 l0 .nil)).2)))] w0 a' w' → Q .normal a' w') : (Code.region 1 bUn1Ops false).wp Try.prog Q a w := by
  refine region_seq (w0 := w) 4 (by kernel_rfl) ?_
  rw [show List.range 4 = [0, 1, 2, 3] from rfl]
  refine env_one (i := 0) (d := 3) (k := .sat (nT 0 (some r) p0 l0)) (step_nload (by kernel_rfl) (Opd.of_base 1 rfl) rfl) (by kernel_rfl) (by decide) h ?_
  clear h
  intro a w h
  refine env_one (i := 1) (d := 4) (k := .sat (nK 0 (some r) (.node p0 l0 .nil))) (step_nslice1 (g := 990) (by kernel_rfl) (Opd.of_base 3 rfl) (Opd.gp0 (Opd.of_base 990 rfl)) rfl) (by kernel_rfl) (by decide) h ?_
  clear h
  intro a w h
  refine env_one (i := 2) (d := 5) (k := .sat (nT nb (some r) ((Tm.errOf (⟨#[117, 110, 105, 110, 115, 116, 97, 110, 116, 105, 97, 116, 105, 111, 110, 95, 101, 114, 114, 111, 114]⟩) (.node p0 l0 .nil)).1) ((Tm.errOf (⟨#[117, 110, 105, 110, 115, 116, 97, 110, 116, 105, 97, 116, 105, 111, 110, 95, 101, 114, 114, 111, 114]⟩) (.node p0 l0 .nil)).2))) (step_errT (Nat.le_of_ble_eq_true rfl) (g := 990) (by kernel_rfl) (Opd.const _) (Opd.of_base 4 rfl) (Opd.of_base 990 rfl) rfl) (by kernel_rfl) (by decide) h ?_
  clear h
  intro a w h
  refine env_store (i := 3) (x := 2) (y := 5) (r := r) [(1, .sat (nP 0 (some r) p0 l0)), (990, .sat (gP nb (some r))), (3, .sat (nT 0 (some r) p0 l0)), (4, .sat (nK 0 (some r) (.node p0 l0 .nil))), (5, .sat (nT nb (some r) ((Tm.errOf (⟨#[117, 110, 105, 110, 115, 116, 97, 110, 116, 105, 97, 116, 105, 111, 110, 95, 101, 114, 114, 111, 114]⟩) (.node p0 l0 .nil)).1) ((Tm.errOf (⟨#[117, 110, 105, 110, 115, 116, 97, 110, 116, 105, 97, 116, 105, 111, 110, 95, 101, 114, 114, 111, 114]⟩) (.node p0 l0 .nil)).2)))] (by kernel_rfl) rfl rfl hr (stays_cons 1 rfl (away_nP _ _ _ _) (stays_cons 990 rfl (away_gP _ _ _) (stays_cons 3 rfl (away_nT _ _ _ _) (stays_cons 4 rfl (away_nK _ _ _) (stays_cons 5 rfl (away_nT _ _ _ _) (stays_nil _ _)))))) h ?_
  clear h
  intro a w h
  exact hQ a w (h.keep [990, 2])
set_option maxHeartbeats 1000000 in
theorem bUn_any (p0 : Pay) (l0 : Fo) (A0 : Option Addr) (c0 : Nat) (B : Nat) (w : World) (hA0 : ArgsB w B A0 (Tm.len l0) l0) (hB : B ≤ w.heap.size)  : Calls Try.prog 13 #[tv p0 A0 (Tm.len l0) c0] w (Makes (Bl.un p0 l0).1 (Bl.un p0 l0).2 w) := by
  refine calls_of_wp Try.func13 bUn_body ?_
  obtain ⟨v0, hv0⟩ : ∃ v : Value, v = tv p0 A0 (Tm.len l0) c0 := ⟨_, rfl⟩
  rw [← hv0]
  have hk0 : (Kd.term p0 l0).R v0 w := by rw [hv0]; exact ⟨A0, c0, rfl, hA0.up hB⟩
  have hsN : (#[v0] ++ Array.replicate (Try.f13.ntmps - #[v0].size) undef : Array Value).size = 6 := by kernel_rfl
  have gs0 : (#[v0] ++ Array.replicate (Try.f13.ntmps - #[v0].size) undef : Array Value).getD 0 undef = v0 := by kernel_rfl
  generalize (#[v0] ++ Array.replicate (Try.f13.ntmps - #[v0].size) undef : Array Value) = tm at hsN gs0 ⊢
  obtain ⟨a, ha0⟩ : ∃ a : Act, a = ⟨tm, []⟩ := ⟨_, rfl⟩
  have h : Hold 6 [(0, .term p0 l0)] w ⟨tm, []⟩ w := ⟨hsN, rfl, Below.refl _ _, (slots_cons 0 (by rw [gs0]; exact hk0) slots_nil)⟩
  obtain ⟨nb, hnb⟩ : ∃ nb, nb = w.heap.size := ⟨_, rfl⟩
  have hn : nb ≤ w.heap.size := by omega
  refine wp_seq ?_
  refine bUn0a_region p0 l0 nb  hn h ?_
  intro r a w1 hr h
  show Code.wp _ _ _ a w1
  refine wp_seq ?_
  refine bUn1a_region p0 l0 nb r  hr h ?_
  intro a w1 h
  show Code.wp _ _ _ a w1
  refine wp_ret ?_
  (try simp only [then_ret, block_ret])
  exact law_cell rfl (h.get 2 rfl) h.defers fun A c ha => ⟨A, c, rfl, ha.mono fun b hb => ⟨by have := hb.1; omega, hb.2.1⟩, h.world⟩
section
variable {ops : Array Oper} {Q : Exit → Act → World → Prop} {E : Nat → Kd} {D : Nat → Nat} {base : Nat → Option Kd} {N : Nat}
theorem step_bUn {i : Nat} {n g : Nat} {G : Option Nat} {x0 : Operand} {p0 : Pay} {l0 : Fo} (hop : (ops[i]?).map (·.op) = some (.call { callee := .value (.func 13), args := #[x0], argTypes := #[24] })) (h0 : Opd ops E D base N i x0 (.term p0 l0)) (hg : Opd ops E D base N i (.tmp g) (.sat (gP n G))) (hE : E i = .sat (nT n G (Bl.un p0 l0).1 (Bl.un p0 l0).2)) : Step Try.prog ops Q E D base N i :=
  step_mk hop (fun _ _ => by kernel_rfl) hg (fun a w h => by
    obtain ⟨A0, c0, e0, ha0⟩ := h0 a w h
    rw [show (#[x0] : Array Operand).map a.eval = #[tv p0 A0 (Tm.len l0) c0] by rw [← e0]; simp]
    exact bUn_any p0 l0 A0 c0 w.heap.size w ha0 (Nat.le_refl _)) hE
end
noncomputable def bTy0Ops : Array Oper := ((Try.f14.body).bind (findReg 0)).getD #[]
noncomputable def bTy1Ops : Array Oper := ((Try.f14.body).bind (findReg 1)).getD #[]
theorem bTy_body : Try.f14.body = some (.seq (.region 0 bTy0Ops false) (.seq (.region 1 bTy1Ops true) .ret)) := by kernel_rfl
theorem bTy0a_region {Q : Exit → Act → World → Prop} (s0 : ByteArray) (p1 : Pay) (l1 : Fo) (nb : Nat)  {w0 : World} {a : Act} {w : World} (hn : nb ≤ w0.heap.size) (h : Hold 10 [(0, .val (.string s0)), (1, .term p1 l1)] w0 a w)
    (hQ : ∀ r a' w', w0.heap.size ≤ r → Hold 10 [(0, .val (.string s0)), (3, .sat (nP 0 (some r) p1 l1)), (4, .sat (rC nb r zp .nil)), (990, .sat (gP nb (some r)))] w0 a' w' → Q .normal a' w') : (Code.region 0 bTy0Ops false).wp Try.prog Q a w := by
  refine region_seq (w0 := w) 2 (by kernel_rfl) ?_
  rw [show List.range 2 = [0, 1] from rfl]
  refine env_one (i := 0) (d := 3) (k := .ptrT p1 l1) (step_box (by kernel_rfl) (Opd.of_base 1 rfl) rfl) (by kernel_rfl) (by decide) h ?_
  clear h
  intro a w h
  refine env_res (i := 1) (d := 4) (n := nb) (fun r => [(0, .val (.string s0)), (1, .sat (nT 0 (some r) p1 l1)), (3, .sat (nP 0 (some r) p1 l1))]) (by kernel_rfl) (by decide) (by decide) hn (fun r => (goes_cons 0 rfl (turns_val _ _) (goes_cons 1 rfl (turns_term _ _ _) (goes_cons 3 rfl (turns_ptr _ _ _) (goes_nil _ _))))) h ?_
  clear h
  intro r a w hr h
  exact hQ r a w hr (h.keep [0, 3, 4, 990])
def bTy1aEs (s0 : ByteArray) (p1 : Pay) (l1 : Fo) (nb r : Nat) : List Kd := [
  .val (.string s0),
  .sat (nT nb (some r) (2, 0, s0) .nil),
  .sat (nT 0 (some r) p1 l1),
  .sat (nK 0 (some r) (.node (2, 0, s0) .nil (.node p1 l1 .nil))),
  .sat (nT nb (some r) ((Tm.errOf (⟨#[116, 121, 112, 101, 95, 101, 114, 114, 111, 114]⟩) (.node (2, 0, s0) .nil (.node p1 l1 .nil))).1) ((Tm.errOf (⟨#[116, 121, 112, 101, 95, 101, 114, 114, 111, 114]⟩) (.node (2, 0, s0) .nil (.node p1 l1 .nil))).2))]
def bTy1aDs : List Nat := [5, 6, 7, 8, 9]
def bTy1aEnv (s0 : ByteArray) (p1 : Pay) (l1 : Fo) (nb r : Nat) : Env := [(0, .val (.string s0)), (3, .sat (nP 0 (some r) p1 l1)), (4, .sat (rC nb r zp .nil)), (990, .sat (gP nb (some r)))]
theorem bTy1a_0 {Q : Exit → Act → World → Prop} (s0 : ByteArray) (p1 : Pay) (l1 : Fo) (nb r : Nat)  : RStep (strip bTy1Ops) Q (fun i => ((bTy1aEs s0 p1 l1 nb r)[i]?).getD .any) (fun i => (bTy1aDs[i]?).getD (1000 + i)) (look (bTy1aEnv s0 p1 l1 nb r)) 10 0 := fun _ => step_move (by kernel_rfl) (Opd.of_base 0 rfl) rfl
theorem bTy1a_1 {Q : Exit → Act → World → Prop} (s0 : ByteArray) (p1 : Pay) (l1 : Fo) (nb r : Nat)  : RStep (strip bTy1Ops) Q (fun i => ((bTy1aEs s0 p1 l1 nb r)[i]?).getD .any) (fun i => (bTy1aDs[i]?).getD (1000 + i)) (look (bTy1aEnv s0 p1 l1 nb r)) 10 1 := fun _ => step_atN (g := 990) (by kernel_rfl) (Opd.dep 0 rfl rfl (by kernel_rfl)) (Opd.of_base 990 rfl) rfl
theorem bTy1a_2 {Q : Exit → Act → World → Prop} (s0 : ByteArray) (p1 : Pay) (l1 : Fo) (nb r : Nat)  : RStep (strip bTy1Ops) Q (fun i => ((bTy1aEs s0 p1 l1 nb r)[i]?).getD .any) (fun i => (bTy1aDs[i]?).getD (1000 + i)) (look (bTy1aEnv s0 p1 l1 nb r)) 10 2 := fun _ => step_nload (by kernel_rfl) (Opd.of_base 3 rfl) rfl
theorem bTy1a_3 {Q : Exit → Act → World → Prop} (s0 : ByteArray) (p1 : Pay) (l1 : Fo) (nb r : Nat)  : RStep (strip bTy1Ops) Q (fun i => ((bTy1aEs s0 p1 l1 nb r)[i]?).getD .any) (fun i => (bTy1aDs[i]?).getD (1000 + i)) (look (bTy1aEnv s0 p1 l1 nb r)) 10 3 := fun _ => step_nslice2 (g := 990) (by kernel_rfl) (Opd.low (Opd.dep 1 rfl rfl (by kernel_rfl))) (Opd.dep 2 rfl rfl (by kernel_rfl)) (Opd.gp0 (Opd.of_base 990 rfl)) rfl
theorem bTy1a_4 {Q : Exit → Act → World → Prop} (s0 : ByteArray) (p1 : Pay) (l1 : Fo) (nb r : Nat)  : RStep (strip bTy1Ops) Q (fun i => ((bTy1aEs s0 p1 l1 nb r)[i]?).getD .any) (fun i => (bTy1aDs[i]?).getD (1000 + i)) (look (bTy1aEnv s0 p1 l1 nb r)) 10 4 := fun _ => step_errT (Nat.le_of_ble_eq_true rfl) (g := 990) (by kernel_rfl) (Opd.const _) (Opd.dep 3 rfl rfl (by kernel_rfl)) (Opd.of_base 990 rfl) rfl
theorem bTy1a_region {Q : Exit → Act → World → Prop} (s0 : ByteArray) (p1 : Pay) (l1 : Fo) (nb r : Nat)  {w0 : World} {a : Act} {w : World} (hr : w0.heap.size ≤ r) (h : Hold 10 [(0, .val (.string s0)), (3, .sat (nP 0 (some r) p1 l1)), (4, .sat (rC nb r zp .nil)), (990, .sat (gP nb (some r)))] w0 a w)
    (hQ : ∀ a' w', Hold 10 [(990, .sat (gP nb (some r))), (4, .sat (rC nb r ((Tm.errOf (⟨#[116, 121, 112, 101, 95, 101, 114, 114, 111, 114]⟩) (.node (2, 0, s0) .nil (.node p1 l1 .nil))).1) ((Tm.errOf (⟨#[116, 121, 112, 101, 95, 101, 114, 114, 111, 114]⟩) (.node (2, 0, s0) .nil (.node p1 l1 .nil))).2)))] w0 a' w' → Q .normal a' w') : (Code.region 1 bTy1Ops true).wp Try.prog Q a w := by
  have hall : ∀ i, i < 0 → RStep (strip bTy1Ops) Q (fun i => ((bTy1aEs s0 p1 l1 nb r)[i]?).getD .any) (fun i => (bTy1aDs[i]?).getD (1000 + i)) (look (bTy1aEnv s0 p1 l1 nb r)) 10 i := fun i hi => absurd hi (by omega)
  have hall := below_succ hall (bTy1a_0 s0 p1 l1 nb r )
  have hall := below_succ hall (bTy1a_1 s0 p1 l1 nb r )
  have hall := below_succ hall (bTy1a_2 s0 p1 l1 nb r )
  have hall := below_succ hall (bTy1a_3 s0 p1 l1 nb r )
  have hall := below_succ hall (bTy1a_4 s0 p1 l1 nb r )
  refine env_then (m := 5) (n := 6) bTy1aDs (bTy1aEs s0 p1 l1 nb r) rfl (by kernel_rfl) (by decide) (by kernel_rfl) (of_decide_eq_true (by kernel_rfl)) (by kernel_rfl) (by kernel_rfl) (fun i_ hi_ => hall i_ hi_) h fun a w h => ?_
  clear hall
  have h := h.keep [0, 3, 4, 990, 5, 6, 7, 8, 9]
  show wpOps Try.prog _ Q [5] a w
  refine env_store (i := 5) (x := 4) (y := 9) (r := r) [(0, .val (.string s0)), (3, .sat (nP 0 (some r) p1 l1)), (990, .sat (gP nb (some r))), (5, .val (.string s0)), (6, .sat (nT nb (some r) (2, 0, s0) .nil)), (7, .sat (nT 0 (some r) p1 l1)), (8, .sat (nK 0 (some r) (.node (2, 0, s0) .nil (.node p1 l1 .nil)))), (9, .sat (nT nb (some r) ((Tm.errOf (⟨#[116, 121, 112, 101, 95, 101, 114, 114, 111, 114]⟩) (.node (2, 0, s0) .nil (.node p1 l1 .nil))).1) ((Tm.errOf (⟨#[116, 121, 112, 101, 95, 101, 114, 114, 111, 114]⟩) (.node (2, 0, s0) .nil (.node p1 l1 .nil))).2)))] (by kernel_rfl) rfl rfl hr (stays_cons 0 rfl (away_val _ _) (stays_cons 3 rfl (away_nP _ _ _ _) (stays_cons 990 rfl (away_gP _ _ _) (stays_cons 5 rfl (away_val _ _) (stays_cons 6 rfl (away_nT _ _ _ _) (stays_cons 7 rfl (away_nT _ _ _ _) (stays_cons 8 rfl (away_nK _ _ _) (stays_cons 9 rfl (away_nT _ _ _ _) (stays_nil _ _))))))))) h ?_
  clear h
  intro a w h
  exact hQ a w (h.keep [990, 4])
set_option maxHeartbeats 1000000 in
theorem bTy_any (s0 : ByteArray) (p1 : Pay) (l1 : Fo) (A1 : Option Addr) (c1 : Nat) (B : Nat) (w : World) (hA1 : ArgsB w B A1 (Tm.len l1) l1) (hB : B ≤ w.heap.size)  : Calls Try.prog 14 #[Value.string s0, tv p1 A1 (Tm.len l1) c1] w (Makes (Bl.ty s0 p1 l1).1 (Bl.ty s0 p1 l1).2 w) := by
  refine calls_of_wp Try.func14 bTy_body ?_
  obtain ⟨v0, hv0⟩ : ∃ v : Value, v = Value.string s0 := ⟨_, rfl⟩
  obtain ⟨v1, hv1⟩ : ∃ v : Value, v = tv p1 A1 (Tm.len l1) c1 := ⟨_, rfl⟩
  rw [← hv0, ← hv1]
  have hk0 : (Kd.val (.string s0)).R v0 w := hv0
  have hk1 : (Kd.term p1 l1).R v1 w := by rw [hv1]; exact ⟨A1, c1, rfl, hA1.up hB⟩
  have hsN : (#[v0, v1] ++ Array.replicate (Try.f14.ntmps - #[v0, v1].size) undef : Array Value).size = 10 := by kernel_rfl
  have gs0 : (#[v0, v1] ++ Array.replicate (Try.f14.ntmps - #[v0, v1].size) undef : Array Value).getD 0 undef = v0 := by kernel_rfl
  have gs1 : (#[v0, v1] ++ Array.replicate (Try.f14.ntmps - #[v0, v1].size) undef : Array Value).getD 1 undef = v1 := by kernel_rfl
  generalize (#[v0, v1] ++ Array.replicate (Try.f14.ntmps - #[v0, v1].size) undef : Array Value) = tm at hsN gs0 gs1 ⊢
  obtain ⟨a, ha0⟩ : ∃ a : Act, a = ⟨tm, []⟩ := ⟨_, rfl⟩
  have h : Hold 10 [(0, .val (.string s0)), (1, .term p1 l1)] w ⟨tm, []⟩ w := ⟨hsN, rfl, Below.refl _ _, (slots_cons 0 (by rw [gs0]; exact hk0) (slots_cons 1 (by rw [gs1]; exact hk1) slots_nil))⟩
  obtain ⟨nb, hnb⟩ : ∃ nb, nb = w.heap.size := ⟨_, rfl⟩
  have hn : nb ≤ w.heap.size := by omega
  refine wp_seq ?_
  refine bTy0a_region s0 p1 l1 nb  hn h ?_
  intro r a w1 hr h
  show Code.wp _ _ _ a w1
  refine wp_seq ?_
  refine bTy1a_region s0 p1 l1 nb r  hr h ?_
  intro a w1 h
  show Code.wp _ _ _ a w1
  refine wp_ret ?_
  (try simp only [then_ret, block_ret])
  exact law_cell rfl (h.get 4 rfl) h.defers fun A c ha => ⟨A, c, rfl, ha.mono fun b hb => ⟨by have := hb.1; omega, hb.2.1⟩, h.world⟩
section
variable {ops : Array Oper} {Q : Exit → Act → World → Prop} {E : Nat → Kd} {D : Nat → Nat} {base : Nat → Option Kd} {N : Nat}
theorem step_bTy {i : Nat} {n g : Nat} {G : Option Nat} {x0 x1 : Operand} {s0 : ByteArray} {p1 : Pay} {l1 : Fo} (hop : (ops[i]?).map (·.op) = some (.call { callee := .value (.func 14), args := #[x0, x1], argTypes := #[9, 24] })) (h0 : Opd ops E D base N i x0 (.val (.string s0))) (h1 : Opd ops E D base N i x1 (.term p1 l1)) (hg : Opd ops E D base N i (.tmp g) (.sat (gP n G))) (hE : E i = .sat (nT n G (Bl.ty s0 p1 l1).1 (Bl.ty s0 p1 l1).2)) : Step Try.prog ops Q E D base N i :=
  step_mk hop (fun _ _ => by kernel_rfl) hg (fun a w h => by
    have e0 : a.eval x0 = .string s0 := h0 a w h
    obtain ⟨A1, c1, e1, ha1⟩ := h1 a w h
    rw [show (#[x0, x1] : Array Operand).map a.eval = #[.string s0, tv p1 A1 (Tm.len l1) c1] by rw [← e0, ← e1]; simp]
    exact bTy_any s0 p1 l1 A1 c1 w.heap.size w ha1 (Nat.le_refl _)) hE
end
noncomputable def bDom0Ops : Array Oper := ((Try.f15.body).bind (findReg 0)).getD #[]
noncomputable def bDom1Ops : Array Oper := ((Try.f15.body).bind (findReg 1)).getD #[]
theorem bDom_body : Try.f15.body = some (.seq (.region 0 bDom0Ops false) (.seq (.region 1 bDom1Ops true) .ret)) := by kernel_rfl
theorem bDom0a_region {Q : Exit → Act → World → Prop} (s0 : ByteArray) (p1 : Pay) (l1 : Fo) (nb : Nat)  {w0 : World} {a : Act} {w : World} (hn : nb ≤ w0.heap.size) (h : Hold 10 [(0, .val (.string s0)), (1, .term p1 l1)] w0 a w)
    (hQ : ∀ r a' w', w0.heap.size ≤ r → Hold 10 [(0, .val (.string s0)), (3, .sat (nP 0 (some r) p1 l1)), (4, .sat (rC nb r zp .nil)), (990, .sat (gP nb (some r)))] w0 a' w' → Q .normal a' w') : (Code.region 0 bDom0Ops false).wp Try.prog Q a w := by
  refine region_seq (w0 := w) 2 (by kernel_rfl) ?_
  rw [show List.range 2 = [0, 1] from rfl]
  refine env_one (i := 0) (d := 3) (k := .ptrT p1 l1) (step_box (by kernel_rfl) (Opd.of_base 1 rfl) rfl) (by kernel_rfl) (by decide) h ?_
  clear h
  intro a w h
  refine env_res (i := 1) (d := 4) (n := nb) (fun r => [(0, .val (.string s0)), (1, .sat (nT 0 (some r) p1 l1)), (3, .sat (nP 0 (some r) p1 l1))]) (by kernel_rfl) (by decide) (by decide) hn (fun r => (goes_cons 0 rfl (turns_val _ _) (goes_cons 1 rfl (turns_term _ _ _) (goes_cons 3 rfl (turns_ptr _ _ _) (goes_nil _ _))))) h ?_
  clear h
  intro r a w hr h
  exact hQ r a w hr (h.keep [0, 3, 4, 990])
def bDom1aEs (s0 : ByteArray) (p1 : Pay) (l1 : Fo) (nb r : Nat) : List Kd := [
  .val (.string s0),
  .sat (nT nb (some r) (2, 0, s0) .nil),
  .sat (nT 0 (some r) p1 l1),
  .sat (nK 0 (some r) (.node (2, 0, s0) .nil (.node p1 l1 .nil))),
  .sat (nT nb (some r) ((Tm.errOf (⟨#[100, 111, 109, 97, 105, 110, 95, 101, 114, 114, 111, 114]⟩) (.node (2, 0, s0) .nil (.node p1 l1 .nil))).1) ((Tm.errOf (⟨#[100, 111, 109, 97, 105, 110, 95, 101, 114, 114, 111, 114]⟩) (.node (2, 0, s0) .nil (.node p1 l1 .nil))).2))]
def bDom1aDs : List Nat := [5, 6, 7, 8, 9]
def bDom1aEnv (s0 : ByteArray) (p1 : Pay) (l1 : Fo) (nb r : Nat) : Env := [(0, .val (.string s0)), (3, .sat (nP 0 (some r) p1 l1)), (4, .sat (rC nb r zp .nil)), (990, .sat (gP nb (some r)))]
theorem bDom1a_0 {Q : Exit → Act → World → Prop} (s0 : ByteArray) (p1 : Pay) (l1 : Fo) (nb r : Nat)  : RStep (strip bDom1Ops) Q (fun i => ((bDom1aEs s0 p1 l1 nb r)[i]?).getD .any) (fun i => (bDom1aDs[i]?).getD (1000 + i)) (look (bDom1aEnv s0 p1 l1 nb r)) 10 0 := fun _ => step_move (by kernel_rfl) (Opd.of_base 0 rfl) rfl
theorem bDom1a_1 {Q : Exit → Act → World → Prop} (s0 : ByteArray) (p1 : Pay) (l1 : Fo) (nb r : Nat)  : RStep (strip bDom1Ops) Q (fun i => ((bDom1aEs s0 p1 l1 nb r)[i]?).getD .any) (fun i => (bDom1aDs[i]?).getD (1000 + i)) (look (bDom1aEnv s0 p1 l1 nb r)) 10 1 := fun _ => step_atN (g := 990) (by kernel_rfl) (Opd.dep 0 rfl rfl (by kernel_rfl)) (Opd.of_base 990 rfl) rfl
theorem bDom1a_2 {Q : Exit → Act → World → Prop} (s0 : ByteArray) (p1 : Pay) (l1 : Fo) (nb r : Nat)  : RStep (strip bDom1Ops) Q (fun i => ((bDom1aEs s0 p1 l1 nb r)[i]?).getD .any) (fun i => (bDom1aDs[i]?).getD (1000 + i)) (look (bDom1aEnv s0 p1 l1 nb r)) 10 2 := fun _ => step_nload (by kernel_rfl) (Opd.of_base 3 rfl) rfl
theorem bDom1a_3 {Q : Exit → Act → World → Prop} (s0 : ByteArray) (p1 : Pay) (l1 : Fo) (nb r : Nat)  : RStep (strip bDom1Ops) Q (fun i => ((bDom1aEs s0 p1 l1 nb r)[i]?).getD .any) (fun i => (bDom1aDs[i]?).getD (1000 + i)) (look (bDom1aEnv s0 p1 l1 nb r)) 10 3 := fun _ => step_nslice2 (g := 990) (by kernel_rfl) (Opd.low (Opd.dep 1 rfl rfl (by kernel_rfl))) (Opd.dep 2 rfl rfl (by kernel_rfl)) (Opd.gp0 (Opd.of_base 990 rfl)) rfl
theorem bDom1a_4 {Q : Exit → Act → World → Prop} (s0 : ByteArray) (p1 : Pay) (l1 : Fo) (nb r : Nat)  : RStep (strip bDom1Ops) Q (fun i => ((bDom1aEs s0 p1 l1 nb r)[i]?).getD .any) (fun i => (bDom1aDs[i]?).getD (1000 + i)) (look (bDom1aEnv s0 p1 l1 nb r)) 10 4 := fun _ => step_errT (Nat.le_of_ble_eq_true rfl) (g := 990) (by kernel_rfl) (Opd.const _) (Opd.dep 3 rfl rfl (by kernel_rfl)) (Opd.of_base 990 rfl) rfl
theorem bDom1a_region {Q : Exit → Act → World → Prop} (s0 : ByteArray) (p1 : Pay) (l1 : Fo) (nb r : Nat)  {w0 : World} {a : Act} {w : World} (hr : w0.heap.size ≤ r) (h : Hold 10 [(0, .val (.string s0)), (3, .sat (nP 0 (some r) p1 l1)), (4, .sat (rC nb r zp .nil)), (990, .sat (gP nb (some r)))] w0 a w)
    (hQ : ∀ a' w', Hold 10 [(990, .sat (gP nb (some r))), (4, .sat (rC nb r ((Tm.errOf (⟨#[100, 111, 109, 97, 105, 110, 95, 101, 114, 114, 111, 114]⟩) (.node (2, 0, s0) .nil (.node p1 l1 .nil))).1) ((Tm.errOf (⟨#[100, 111, 109, 97, 105, 110, 95, 101, 114, 114, 111, 114]⟩) (.node (2, 0, s0) .nil (.node p1 l1 .nil))).2)))] w0 a' w' → Q .normal a' w') : (Code.region 1 bDom1Ops true).wp Try.prog Q a w := by
  have hall : ∀ i, i < 0 → RStep (strip bDom1Ops) Q (fun i => ((bDom1aEs s0 p1 l1 nb r)[i]?).getD .any) (fun i => (bDom1aDs[i]?).getD (1000 + i)) (look (bDom1aEnv s0 p1 l1 nb r)) 10 i := fun i hi => absurd hi (by omega)
  have hall := below_succ hall (bDom1a_0 s0 p1 l1 nb r )
  have hall := below_succ hall (bDom1a_1 s0 p1 l1 nb r )
  have hall := below_succ hall (bDom1a_2 s0 p1 l1 nb r )
  have hall := below_succ hall (bDom1a_3 s0 p1 l1 nb r )
  have hall := below_succ hall (bDom1a_4 s0 p1 l1 nb r )
  refine env_then (m := 5) (n := 6) bDom1aDs (bDom1aEs s0 p1 l1 nb r) rfl (by kernel_rfl) (by decide) (by kernel_rfl) (of_decide_eq_true (by kernel_rfl)) (by kernel_rfl) (by kernel_rfl) (fun i_ hi_ => hall i_ hi_) h fun a w h => ?_
  clear hall
  have h := h.keep [0, 3, 4, 990, 5, 6, 7, 8, 9]
  show wpOps Try.prog _ Q [5] a w
  refine env_store (i := 5) (x := 4) (y := 9) (r := r) [(0, .val (.string s0)), (3, .sat (nP 0 (some r) p1 l1)), (990, .sat (gP nb (some r))), (5, .val (.string s0)), (6, .sat (nT nb (some r) (2, 0, s0) .nil)), (7, .sat (nT 0 (some r) p1 l1)), (8, .sat (nK 0 (some r) (.node (2, 0, s0) .nil (.node p1 l1 .nil)))), (9, .sat (nT nb (some r) ((Tm.errOf (⟨#[100, 111, 109, 97, 105, 110, 95, 101, 114, 114, 111, 114]⟩) (.node (2, 0, s0) .nil (.node p1 l1 .nil))).1) ((Tm.errOf (⟨#[100, 111, 109, 97, 105, 110, 95, 101, 114, 114, 111, 114]⟩) (.node (2, 0, s0) .nil (.node p1 l1 .nil))).2)))] (by kernel_rfl) rfl rfl hr (stays_cons 0 rfl (away_val _ _) (stays_cons 3 rfl (away_nP _ _ _ _) (stays_cons 990 rfl (away_gP _ _ _) (stays_cons 5 rfl (away_val _ _) (stays_cons 6 rfl (away_nT _ _ _ _) (stays_cons 7 rfl (away_nT _ _ _ _) (stays_cons 8 rfl (away_nK _ _ _) (stays_cons 9 rfl (away_nT _ _ _ _) (stays_nil _ _))))))))) h ?_
  clear h
  intro a w h
  exact hQ a w (h.keep [990, 4])
set_option maxHeartbeats 1000000 in
theorem bDom_any (s0 : ByteArray) (p1 : Pay) (l1 : Fo) (A1 : Option Addr) (c1 : Nat) (B : Nat) (w : World) (hA1 : ArgsB w B A1 (Tm.len l1) l1) (hB : B ≤ w.heap.size)  : Calls Try.prog 15 #[Value.string s0, tv p1 A1 (Tm.len l1) c1] w (Makes (Bl.dom s0 p1 l1).1 (Bl.dom s0 p1 l1).2 w) := by
  refine calls_of_wp Try.func15 bDom_body ?_
  obtain ⟨v0, hv0⟩ : ∃ v : Value, v = Value.string s0 := ⟨_, rfl⟩
  obtain ⟨v1, hv1⟩ : ∃ v : Value, v = tv p1 A1 (Tm.len l1) c1 := ⟨_, rfl⟩
  rw [← hv0, ← hv1]
  have hk0 : (Kd.val (.string s0)).R v0 w := hv0
  have hk1 : (Kd.term p1 l1).R v1 w := by rw [hv1]; exact ⟨A1, c1, rfl, hA1.up hB⟩
  have hsN : (#[v0, v1] ++ Array.replicate (Try.f15.ntmps - #[v0, v1].size) undef : Array Value).size = 10 := by kernel_rfl
  have gs0 : (#[v0, v1] ++ Array.replicate (Try.f15.ntmps - #[v0, v1].size) undef : Array Value).getD 0 undef = v0 := by kernel_rfl
  have gs1 : (#[v0, v1] ++ Array.replicate (Try.f15.ntmps - #[v0, v1].size) undef : Array Value).getD 1 undef = v1 := by kernel_rfl
  generalize (#[v0, v1] ++ Array.replicate (Try.f15.ntmps - #[v0, v1].size) undef : Array Value) = tm at hsN gs0 gs1 ⊢
  obtain ⟨a, ha0⟩ : ∃ a : Act, a = ⟨tm, []⟩ := ⟨_, rfl⟩
  have h : Hold 10 [(0, .val (.string s0)), (1, .term p1 l1)] w ⟨tm, []⟩ w := ⟨hsN, rfl, Below.refl _ _, (slots_cons 0 (by rw [gs0]; exact hk0) (slots_cons 1 (by rw [gs1]; exact hk1) slots_nil))⟩
  obtain ⟨nb, hnb⟩ : ∃ nb, nb = w.heap.size := ⟨_, rfl⟩
  have hn : nb ≤ w.heap.size := by omega
  refine wp_seq ?_
  refine bDom0a_region s0 p1 l1 nb  hn h ?_
  intro r a w1 hr h
  show Code.wp _ _ _ a w1
  refine wp_seq ?_
  refine bDom1a_region s0 p1 l1 nb r  hr h ?_
  intro a w1 h
  show Code.wp _ _ _ a w1
  refine wp_ret ?_
  (try simp only [then_ret, block_ret])
  exact law_cell rfl (h.get 4 rfl) h.defers fun A c ha => ⟨A, c, rfl, ha.mono fun b hb => ⟨by have := hb.1; omega, hb.2.1⟩, h.world⟩
section
variable {ops : Array Oper} {Q : Exit → Act → World → Prop} {E : Nat → Kd} {D : Nat → Nat} {base : Nat → Option Kd} {N : Nat}
theorem step_bDom {i : Nat} {n g : Nat} {G : Option Nat} {x0 x1 : Operand} {s0 : ByteArray} {p1 : Pay} {l1 : Fo} (hop : (ops[i]?).map (·.op) = some (.call { callee := .value (.func 15), args := #[x0, x1], argTypes := #[9, 24] })) (h0 : Opd ops E D base N i x0 (.val (.string s0))) (h1 : Opd ops E D base N i x1 (.term p1 l1)) (hg : Opd ops E D base N i (.tmp g) (.sat (gP n G))) (hE : E i = .sat (nT n G (Bl.dom s0 p1 l1).1 (Bl.dom s0 p1 l1).2)) : Step Try.prog ops Q E D base N i :=
  step_mk hop (fun _ _ => by kernel_rfl) hg (fun a w h => by
    have e0 : a.eval x0 = .string s0 := h0 a w h
    obtain ⟨A1, c1, e1, ha1⟩ := h1 a w h
    rw [show (#[x0, x1] : Array Operand).map a.eval = #[.string s0, tv p1 A1 (Tm.len l1) c1] by rw [← e0, ← e1]; simp]
    exact bDom_any s0 p1 l1 A1 c1 w.heap.size w ha1 (Nat.le_refl _)) hE
end
noncomputable def bExt0Ops : Array Oper := ((Try.f16.body).bind (findReg 0)).getD #[]
noncomputable def bExt1Ops : Array Oper := ((Try.f16.body).bind (findReg 1)).getD #[]
theorem bExt_body : Try.f16.body = some (.seq (.region 0 bExt0Ops false) (.seq (.region 1 bExt1Ops true) .ret)) := by kernel_rfl
theorem bExt0a_region {Q : Exit → Act → World → Prop} (s0 : ByteArray) (p1 : Pay) (l1 : Fo) (nb : Nat)  {w0 : World} {a : Act} {w : World} (hn : nb ≤ w0.heap.size) (h : Hold 10 [(0, .val (.string s0)), (1, .term p1 l1)] w0 a w)
    (hQ : ∀ r a' w', w0.heap.size ≤ r → Hold 10 [(0, .val (.string s0)), (3, .sat (nP 0 (some r) p1 l1)), (4, .sat (rC nb r zp .nil)), (990, .sat (gP nb (some r)))] w0 a' w' → Q .normal a' w') : (Code.region 0 bExt0Ops false).wp Try.prog Q a w := by
  refine region_seq (w0 := w) 2 (by kernel_rfl) ?_
  rw [show List.range 2 = [0, 1] from rfl]
  refine env_one (i := 0) (d := 3) (k := .ptrT p1 l1) (step_box (by kernel_rfl) (Opd.of_base 1 rfl) rfl) (by kernel_rfl) (by decide) h ?_
  clear h
  intro a w h
  refine env_res (i := 1) (d := 4) (n := nb) (fun r => [(0, .val (.string s0)), (1, .sat (nT 0 (some r) p1 l1)), (3, .sat (nP 0 (some r) p1 l1))]) (by kernel_rfl) (by decide) (by decide) hn (fun r => (goes_cons 0 rfl (turns_val _ _) (goes_cons 1 rfl (turns_term _ _ _) (goes_cons 3 rfl (turns_ptr _ _ _) (goes_nil _ _))))) h ?_
  clear h
  intro r a w hr h
  exact hQ r a w hr (h.keep [0, 3, 4, 990])
def bExt1aEs (s0 : ByteArray) (p1 : Pay) (l1 : Fo) (nb r : Nat) : List Kd := [
  .val (.string s0),
  .sat (nT nb (some r) (2, 0, s0) .nil),
  .sat (nT 0 (some r) p1 l1),
  .sat (nK 0 (some r) (.node (2, 0, s0) .nil (.node p1 l1 .nil))),
  .sat (nT nb (some r) ((Tm.errOf (⟨#[101, 120, 105, 115, 116, 101, 110, 99, 101, 95, 101, 114, 114, 111, 114]⟩) (.node (2, 0, s0) .nil (.node p1 l1 .nil))).1) ((Tm.errOf (⟨#[101, 120, 105, 115, 116, 101, 110, 99, 101, 95, 101, 114, 114, 111, 114]⟩) (.node (2, 0, s0) .nil (.node p1 l1 .nil))).2))]
def bExt1aDs : List Nat := [5, 6, 7, 8, 9]
def bExt1aEnv (s0 : ByteArray) (p1 : Pay) (l1 : Fo) (nb r : Nat) : Env := [(0, .val (.string s0)), (3, .sat (nP 0 (some r) p1 l1)), (4, .sat (rC nb r zp .nil)), (990, .sat (gP nb (some r)))]
theorem bExt1a_0 {Q : Exit → Act → World → Prop} (s0 : ByteArray) (p1 : Pay) (l1 : Fo) (nb r : Nat)  : RStep (strip bExt1Ops) Q (fun i => ((bExt1aEs s0 p1 l1 nb r)[i]?).getD .any) (fun i => (bExt1aDs[i]?).getD (1000 + i)) (look (bExt1aEnv s0 p1 l1 nb r)) 10 0 := fun _ => step_move (by kernel_rfl) (Opd.of_base 0 rfl) rfl
theorem bExt1a_1 {Q : Exit → Act → World → Prop} (s0 : ByteArray) (p1 : Pay) (l1 : Fo) (nb r : Nat)  : RStep (strip bExt1Ops) Q (fun i => ((bExt1aEs s0 p1 l1 nb r)[i]?).getD .any) (fun i => (bExt1aDs[i]?).getD (1000 + i)) (look (bExt1aEnv s0 p1 l1 nb r)) 10 1 := fun _ => step_atN (g := 990) (by kernel_rfl) (Opd.dep 0 rfl rfl (by kernel_rfl)) (Opd.of_base 990 rfl) rfl
theorem bExt1a_2 {Q : Exit → Act → World → Prop} (s0 : ByteArray) (p1 : Pay) (l1 : Fo) (nb r : Nat)  : RStep (strip bExt1Ops) Q (fun i => ((bExt1aEs s0 p1 l1 nb r)[i]?).getD .any) (fun i => (bExt1aDs[i]?).getD (1000 + i)) (look (bExt1aEnv s0 p1 l1 nb r)) 10 2 := fun _ => step_nload (by kernel_rfl) (Opd.of_base 3 rfl) rfl
theorem bExt1a_3 {Q : Exit → Act → World → Prop} (s0 : ByteArray) (p1 : Pay) (l1 : Fo) (nb r : Nat)  : RStep (strip bExt1Ops) Q (fun i => ((bExt1aEs s0 p1 l1 nb r)[i]?).getD .any) (fun i => (bExt1aDs[i]?).getD (1000 + i)) (look (bExt1aEnv s0 p1 l1 nb r)) 10 3 := fun _ => step_nslice2 (g := 990) (by kernel_rfl) (Opd.low (Opd.dep 1 rfl rfl (by kernel_rfl))) (Opd.dep 2 rfl rfl (by kernel_rfl)) (Opd.gp0 (Opd.of_base 990 rfl)) rfl
theorem bExt1a_4 {Q : Exit → Act → World → Prop} (s0 : ByteArray) (p1 : Pay) (l1 : Fo) (nb r : Nat)  : RStep (strip bExt1Ops) Q (fun i => ((bExt1aEs s0 p1 l1 nb r)[i]?).getD .any) (fun i => (bExt1aDs[i]?).getD (1000 + i)) (look (bExt1aEnv s0 p1 l1 nb r)) 10 4 := fun _ => step_errT (Nat.le_of_ble_eq_true rfl) (g := 990) (by kernel_rfl) (Opd.const _) (Opd.dep 3 rfl rfl (by kernel_rfl)) (Opd.of_base 990 rfl) rfl
theorem bExt1a_region {Q : Exit → Act → World → Prop} (s0 : ByteArray) (p1 : Pay) (l1 : Fo) (nb r : Nat)  {w0 : World} {a : Act} {w : World} (hr : w0.heap.size ≤ r) (h : Hold 10 [(0, .val (.string s0)), (3, .sat (nP 0 (some r) p1 l1)), (4, .sat (rC nb r zp .nil)), (990, .sat (gP nb (some r)))] w0 a w)
    (hQ : ∀ a' w', Hold 10 [(990, .sat (gP nb (some r))), (4, .sat (rC nb r ((Tm.errOf (⟨#[101, 120, 105, 115, 116, 101, 110, 99, 101, 95, 101, 114, 114, 111, 114]⟩) (.node (2, 0, s0) .nil (.node p1 l1 .nil))).1) ((Tm.errOf (⟨#[101, 120, 105, 115, 116, 101, 110, 99, 101, 95, 101, 114, 114, 111, 114]⟩) (.node (2, 0, s0) .nil (.node p1 l1 .nil))).2)))] w0 a' w' → Q .normal a' w') : (Code.region 1 bExt1Ops true).wp Try.prog Q a w := by
  have hall : ∀ i, i < 0 → RStep (strip bExt1Ops) Q (fun i => ((bExt1aEs s0 p1 l1 nb r)[i]?).getD .any) (fun i => (bExt1aDs[i]?).getD (1000 + i)) (look (bExt1aEnv s0 p1 l1 nb r)) 10 i := fun i hi => absurd hi (by omega)
  have hall := below_succ hall (bExt1a_0 s0 p1 l1 nb r )
  have hall := below_succ hall (bExt1a_1 s0 p1 l1 nb r )
  have hall := below_succ hall (bExt1a_2 s0 p1 l1 nb r )
  have hall := below_succ hall (bExt1a_3 s0 p1 l1 nb r )
  have hall := below_succ hall (bExt1a_4 s0 p1 l1 nb r )
  refine env_then (m := 5) (n := 6) bExt1aDs (bExt1aEs s0 p1 l1 nb r) rfl (by kernel_rfl) (by decide) (by kernel_rfl) (of_decide_eq_true (by kernel_rfl)) (by kernel_rfl) (by kernel_rfl) (fun i_ hi_ => hall i_ hi_) h fun a w h => ?_
  clear hall
  have h := h.keep [0, 3, 4, 990, 5, 6, 7, 8, 9]
  show wpOps Try.prog _ Q [5] a w
  refine env_store (i := 5) (x := 4) (y := 9) (r := r) [(0, .val (.string s0)), (3, .sat (nP 0 (some r) p1 l1)), (990, .sat (gP nb (some r))), (5, .val (.string s0)), (6, .sat (nT nb (some r) (2, 0, s0) .nil)), (7, .sat (nT 0 (some r) p1 l1)), (8, .sat (nK 0 (some r) (.node (2, 0, s0) .nil (.node p1 l1 .nil)))), (9, .sat (nT nb (some r) ((Tm.errOf (⟨#[101, 120, 105, 115, 116, 101, 110, 99, 101, 95, 101, 114, 114, 111, 114]⟩) (.node (2, 0, s0) .nil (.node p1 l1 .nil))).1) ((Tm.errOf (⟨#[101, 120, 105, 115, 116, 101, 110, 99, 101, 95, 101, 114, 114, 111, 114]⟩) (.node (2, 0, s0) .nil (.node p1 l1 .nil))).2)))] (by kernel_rfl) rfl rfl hr (stays_cons 0 rfl (away_val _ _) (stays_cons 3 rfl (away_nP _ _ _ _) (stays_cons 990 rfl (away_gP _ _ _) (stays_cons 5 rfl (away_val _ _) (stays_cons 6 rfl (away_nT _ _ _ _) (stays_cons 7 rfl (away_nT _ _ _ _) (stays_cons 8 rfl (away_nK _ _ _) (stays_cons 9 rfl (away_nT _ _ _ _) (stays_nil _ _))))))))) h ?_
  clear h
  intro a w h
  exact hQ a w (h.keep [990, 4])
set_option maxHeartbeats 1000000 in
theorem bExt_any (s0 : ByteArray) (p1 : Pay) (l1 : Fo) (A1 : Option Addr) (c1 : Nat) (B : Nat) (w : World) (hA1 : ArgsB w B A1 (Tm.len l1) l1) (hB : B ≤ w.heap.size)  : Calls Try.prog 16 #[Value.string s0, tv p1 A1 (Tm.len l1) c1] w (Makes (Bl.ext s0 p1 l1).1 (Bl.ext s0 p1 l1).2 w) := by
  refine calls_of_wp Try.func16 bExt_body ?_
  obtain ⟨v0, hv0⟩ : ∃ v : Value, v = Value.string s0 := ⟨_, rfl⟩
  obtain ⟨v1, hv1⟩ : ∃ v : Value, v = tv p1 A1 (Tm.len l1) c1 := ⟨_, rfl⟩
  rw [← hv0, ← hv1]
  have hk0 : (Kd.val (.string s0)).R v0 w := hv0
  have hk1 : (Kd.term p1 l1).R v1 w := by rw [hv1]; exact ⟨A1, c1, rfl, hA1.up hB⟩
  have hsN : (#[v0, v1] ++ Array.replicate (Try.f16.ntmps - #[v0, v1].size) undef : Array Value).size = 10 := by kernel_rfl
  have gs0 : (#[v0, v1] ++ Array.replicate (Try.f16.ntmps - #[v0, v1].size) undef : Array Value).getD 0 undef = v0 := by kernel_rfl
  have gs1 : (#[v0, v1] ++ Array.replicate (Try.f16.ntmps - #[v0, v1].size) undef : Array Value).getD 1 undef = v1 := by kernel_rfl
  generalize (#[v0, v1] ++ Array.replicate (Try.f16.ntmps - #[v0, v1].size) undef : Array Value) = tm at hsN gs0 gs1 ⊢
  obtain ⟨a, ha0⟩ : ∃ a : Act, a = ⟨tm, []⟩ := ⟨_, rfl⟩
  have h : Hold 10 [(0, .val (.string s0)), (1, .term p1 l1)] w ⟨tm, []⟩ w := ⟨hsN, rfl, Below.refl _ _, (slots_cons 0 (by rw [gs0]; exact hk0) (slots_cons 1 (by rw [gs1]; exact hk1) slots_nil))⟩
  obtain ⟨nb, hnb⟩ : ∃ nb, nb = w.heap.size := ⟨_, rfl⟩
  have hn : nb ≤ w.heap.size := by omega
  refine wp_seq ?_
  refine bExt0a_region s0 p1 l1 nb  hn h ?_
  intro r a w1 hr h
  show Code.wp _ _ _ a w1
  refine wp_seq ?_
  refine bExt1a_region s0 p1 l1 nb r  hr h ?_
  intro a w1 h
  show Code.wp _ _ _ a w1
  refine wp_ret ?_
  (try simp only [then_ret, block_ret])
  exact law_cell rfl (h.get 4 rfl) h.defers fun A c ha => ⟨A, c, rfl, ha.mono fun b hb => ⟨by have := hb.1; omega, hb.2.1⟩, h.world⟩
section
variable {ops : Array Oper} {Q : Exit → Act → World → Prop} {E : Nat → Kd} {D : Nat → Nat} {base : Nat → Option Kd} {N : Nat}
theorem step_bExt {i : Nat} {n g : Nat} {G : Option Nat} {x0 x1 : Operand} {s0 : ByteArray} {p1 : Pay} {l1 : Fo} (hop : (ops[i]?).map (·.op) = some (.call { callee := .value (.func 16), args := #[x0, x1], argTypes := #[9, 24] })) (h0 : Opd ops E D base N i x0 (.val (.string s0))) (h1 : Opd ops E D base N i x1 (.term p1 l1)) (hg : Opd ops E D base N i (.tmp g) (.sat (gP n G))) (hE : E i = .sat (nT n G (Bl.ext s0 p1 l1).1 (Bl.ext s0 p1 l1).2)) : Step Try.prog ops Q E D base N i :=
  step_mk hop (fun _ _ => by kernel_rfl) hg (fun a w h => by
    have e0 : a.eval x0 = .string s0 := h0 a w h
    obtain ⟨A1, c1, e1, ha1⟩ := h1 a w h
    rw [show (#[x0, x1] : Array Operand).map a.eval = #[.string s0, tv p1 A1 (Tm.len l1) c1] by rw [← e0, ← e1]; simp]
    exact bExt_any s0 p1 l1 A1 c1 w.heap.size w ha1 (Nat.le_refl _)) hE
end
noncomputable def bPerm0Ops : Array Oper := ((Try.f17.body).bind (findReg 0)).getD #[]
noncomputable def bPerm1Ops : Array Oper := ((Try.f17.body).bind (findReg 1)).getD #[]
theorem bPerm_body : Try.f17.body = some (.seq (.region 0 bPerm0Ops false) (.seq (.region 1 bPerm1Ops true) .ret)) := by kernel_rfl
theorem bPerm0a_region {Q : Exit → Act → World → Prop} (s0 : ByteArray) (s1 : ByteArray) (p2 : Pay) (l2 : Fo) (nb : Nat)  {w0 : World} {a : Act} {w : World} (hn : nb ≤ w0.heap.size) (h : Hold 14 [(0, .val (.string s0)), (1, .val (.string s1)), (2, .term p2 l2)] w0 a w)
    (hQ : ∀ r a' w', w0.heap.size ≤ r → Hold 14 [(0, .val (.string s0)), (1, .val (.string s1)), (5, .sat (nP 0 (some r) p2 l2)), (6, .sat (rC nb r zp .nil)), (990, .sat (gP nb (some r)))] w0 a' w' → Q .normal a' w') : (Code.region 0 bPerm0Ops false).wp Try.prog Q a w := by
  refine region_seq (w0 := w) 2 (by kernel_rfl) ?_
  rw [show List.range 2 = [0, 1] from rfl]
  refine env_one (i := 0) (d := 5) (k := .ptrT p2 l2) (step_box (by kernel_rfl) (Opd.of_base 2 rfl) rfl) (by kernel_rfl) (by decide) h ?_
  clear h
  intro a w h
  refine env_res (i := 1) (d := 6) (n := nb) (fun r => [(0, .val (.string s0)), (1, .val (.string s1)), (2, .sat (nT 0 (some r) p2 l2)), (5, .sat (nP 0 (some r) p2 l2))]) (by kernel_rfl) (by decide) (by decide) hn (fun r => (goes_cons 0 rfl (turns_val _ _) (goes_cons 1 rfl (turns_val _ _) (goes_cons 2 rfl (turns_term _ _ _) (goes_cons 5 rfl (turns_ptr _ _ _) (goes_nil _ _)))))) h ?_
  clear h
  intro r a w hr h
  exact hQ r a w hr (h.keep [0, 1, 5, 6, 990])
def bPerm1aEs (s0 : ByteArray) (s1 : ByteArray) (p2 : Pay) (l2 : Fo) (nb r : Nat) : List Kd := [
  .val (.string s0),
  .sat (nT nb (some r) (2, 0, s0) .nil),
  .val (.string s1),
  .sat (nT nb (some r) (2, 0, s1) .nil),
  .sat (nT 0 (some r) p2 l2),
  .sat (nK 0 (some r) (.node (2, 0, s0) .nil (.node (2, 0, s1) .nil (.node p2 l2 .nil)))),
  .sat (nT nb (some r) ((Tm.errOf (⟨#[112, 101, 114, 109, 105, 115, 115, 105, 111, 110, 95, 101, 114, 114, 111, 114]⟩) (.node (2, 0, s0) .nil (.node (2, 0, s1) .nil (.node p2 l2 .nil)))).1) ((Tm.errOf (⟨#[112, 101, 114, 109, 105, 115, 115, 105, 111, 110, 95, 101, 114, 114, 111, 114]⟩) (.node (2, 0, s0) .nil (.node (2, 0, s1) .nil (.node p2 l2 .nil)))).2))]
def bPerm1aDs : List Nat := [7, 8, 9, 10, 11, 12, 13]
def bPerm1aEnv (s0 : ByteArray) (s1 : ByteArray) (p2 : Pay) (l2 : Fo) (nb r : Nat) : Env := [(0, .val (.string s0)), (1, .val (.string s1)), (5, .sat (nP 0 (some r) p2 l2)), (6, .sat (rC nb r zp .nil)), (990, .sat (gP nb (some r)))]
theorem bPerm1a_0 {Q : Exit → Act → World → Prop} (s0 : ByteArray) (s1 : ByteArray) (p2 : Pay) (l2 : Fo) (nb r : Nat)  : RStep (strip bPerm1Ops) Q (fun i => ((bPerm1aEs s0 s1 p2 l2 nb r)[i]?).getD .any) (fun i => (bPerm1aDs[i]?).getD (1000 + i)) (look (bPerm1aEnv s0 s1 p2 l2 nb r)) 14 0 := fun _ => step_move (by kernel_rfl) (Opd.of_base 0 rfl) rfl
theorem bPerm1a_1 {Q : Exit → Act → World → Prop} (s0 : ByteArray) (s1 : ByteArray) (p2 : Pay) (l2 : Fo) (nb r : Nat)  : RStep (strip bPerm1Ops) Q (fun i => ((bPerm1aEs s0 s1 p2 l2 nb r)[i]?).getD .any) (fun i => (bPerm1aDs[i]?).getD (1000 + i)) (look (bPerm1aEnv s0 s1 p2 l2 nb r)) 14 1 := fun _ => step_atN (g := 990) (by kernel_rfl) (Opd.dep 0 rfl rfl (by kernel_rfl)) (Opd.of_base 990 rfl) rfl
theorem bPerm1a_2 {Q : Exit → Act → World → Prop} (s0 : ByteArray) (s1 : ByteArray) (p2 : Pay) (l2 : Fo) (nb r : Nat)  : RStep (strip bPerm1Ops) Q (fun i => ((bPerm1aEs s0 s1 p2 l2 nb r)[i]?).getD .any) (fun i => (bPerm1aDs[i]?).getD (1000 + i)) (look (bPerm1aEnv s0 s1 p2 l2 nb r)) 14 2 := fun _ => step_move (by kernel_rfl) (Opd.of_base 1 rfl) rfl
theorem bPerm1a_3 {Q : Exit → Act → World → Prop} (s0 : ByteArray) (s1 : ByteArray) (p2 : Pay) (l2 : Fo) (nb r : Nat)  : RStep (strip bPerm1Ops) Q (fun i => ((bPerm1aEs s0 s1 p2 l2 nb r)[i]?).getD .any) (fun i => (bPerm1aDs[i]?).getD (1000 + i)) (look (bPerm1aEnv s0 s1 p2 l2 nb r)) 14 3 := fun _ => step_atN (g := 990) (by kernel_rfl) (Opd.dep 2 rfl rfl (by kernel_rfl)) (Opd.of_base 990 rfl) rfl
theorem bPerm1a_4 {Q : Exit → Act → World → Prop} (s0 : ByteArray) (s1 : ByteArray) (p2 : Pay) (l2 : Fo) (nb r : Nat)  : RStep (strip bPerm1Ops) Q (fun i => ((bPerm1aEs s0 s1 p2 l2 nb r)[i]?).getD .any) (fun i => (bPerm1aDs[i]?).getD (1000 + i)) (look (bPerm1aEnv s0 s1 p2 l2 nb r)) 14 4 := fun _ => step_nload (by kernel_rfl) (Opd.of_base 5 rfl) rfl
theorem bPerm1a_5 {Q : Exit → Act → World → Prop} (s0 : ByteArray) (s1 : ByteArray) (p2 : Pay) (l2 : Fo) (nb r : Nat)  : RStep (strip bPerm1Ops) Q (fun i => ((bPerm1aEs s0 s1 p2 l2 nb r)[i]?).getD .any) (fun i => (bPerm1aDs[i]?).getD (1000 + i)) (look (bPerm1aEnv s0 s1 p2 l2 nb r)) 14 5 := fun _ => step_nslice3 (g := 990) (by kernel_rfl) (Opd.low (Opd.dep 1 rfl rfl (by kernel_rfl))) (Opd.low (Opd.dep 3 rfl rfl (by kernel_rfl))) (Opd.dep 4 rfl rfl (by kernel_rfl)) (Opd.gp0 (Opd.of_base 990 rfl)) rfl
theorem bPerm1a_6 {Q : Exit → Act → World → Prop} (s0 : ByteArray) (s1 : ByteArray) (p2 : Pay) (l2 : Fo) (nb r : Nat)  : RStep (strip bPerm1Ops) Q (fun i => ((bPerm1aEs s0 s1 p2 l2 nb r)[i]?).getD .any) (fun i => (bPerm1aDs[i]?).getD (1000 + i)) (look (bPerm1aEnv s0 s1 p2 l2 nb r)) 14 6 := fun _ => step_errT (Nat.le_of_ble_eq_true rfl) (g := 990) (by kernel_rfl) (Opd.const _) (Opd.dep 5 rfl rfl (by kernel_rfl)) (Opd.of_base 990 rfl) rfl
theorem bPerm1a_region {Q : Exit → Act → World → Prop} (s0 : ByteArray) (s1 : ByteArray) (p2 : Pay) (l2 : Fo) (nb r : Nat)  {w0 : World} {a : Act} {w : World} (hr : w0.heap.size ≤ r) (h : Hold 14 [(0, .val (.string s0)), (1, .val (.string s1)), (5, .sat (nP 0 (some r) p2 l2)), (6, .sat (rC nb r zp .nil)), (990, .sat (gP nb (some r)))] w0 a w)
    (hQ : ∀ a' w', Hold 14 [(990, .sat (gP nb (some r))), (6, .sat (rC nb r ((Tm.errOf (⟨#[112, 101, 114, 109, 105, 115, 115, 105, 111, 110, 95, 101, 114, 114, 111, 114]⟩) (.node (2, 0, s0) .nil (.node (2, 0, s1) .nil (.node p2 l2 .nil)))).1) ((Tm.errOf (⟨#[112, 101, 114, 109, 105, 115, 115, 105, 111, 110, 95, 101, 114, 114, 111, 114]⟩) (.node (2, 0, s0) .nil (.node (2, 0, s1) .nil (.node p2 l2 .nil)))).2)))] w0 a' w' → Q .normal a' w') : (Code.region 1 bPerm1Ops true).wp Try.prog Q a w := by
  have hall : ∀ i, i < 0 → RStep (strip bPerm1Ops) Q (fun i => ((bPerm1aEs s0 s1 p2 l2 nb r)[i]?).getD .any) (fun i => (bPerm1aDs[i]?).getD (1000 + i)) (look (bPerm1aEnv s0 s1 p2 l2 nb r)) 14 i := fun i hi => absurd hi (by omega)
  have hall := below_succ hall (bPerm1a_0 s0 s1 p2 l2 nb r )
  have hall := below_succ hall (bPerm1a_1 s0 s1 p2 l2 nb r )
  have hall := below_succ hall (bPerm1a_2 s0 s1 p2 l2 nb r )
  have hall := below_succ hall (bPerm1a_3 s0 s1 p2 l2 nb r )
  have hall := below_succ hall (bPerm1a_4 s0 s1 p2 l2 nb r )
  have hall := below_succ hall (bPerm1a_5 s0 s1 p2 l2 nb r )
  have hall := below_succ hall (bPerm1a_6 s0 s1 p2 l2 nb r )
  refine env_then (m := 7) (n := 8) bPerm1aDs (bPerm1aEs s0 s1 p2 l2 nb r) rfl (by kernel_rfl) (by decide) (by kernel_rfl) (of_decide_eq_true (by kernel_rfl)) (by kernel_rfl) (by kernel_rfl) (fun i_ hi_ => hall i_ hi_) h fun a w h => ?_
  clear hall
  have h := h.keep [0, 1, 5, 6, 990, 7, 8, 9, 10, 11, 12, 13]
  show wpOps Try.prog _ Q [7] a w
  refine env_store (i := 7) (x := 6) (y := 13) (r := r) [(0, .val (.string s0)), (1, .val (.string s1)), (5, .sat (nP 0 (some r) p2 l2)), (990, .sat (gP nb (some r))), (7, .val (.string s0)), (8, .sat (nT nb (some r) (2, 0, s0) .nil)), (9, .val (.string s1)), (10, .sat (nT nb (some r) (2, 0, s1) .nil)), (11, .sat (nT 0 (some r) p2 l2)), (12, .sat (nK 0 (some r) (.node (2, 0, s0) .nil (.node (2, 0, s1) .nil (.node p2 l2 .nil))))), (13, .sat (nT nb (some r) ((Tm.errOf (⟨#[112, 101, 114, 109, 105, 115, 115, 105, 111, 110, 95, 101, 114, 114, 111, 114]⟩) (.node (2, 0, s0) .nil (.node (2, 0, s1) .nil (.node p2 l2 .nil)))).1) ((Tm.errOf (⟨#[112, 101, 114, 109, 105, 115, 115, 105, 111, 110, 95, 101, 114, 114, 111, 114]⟩) (.node (2, 0, s0) .nil (.node (2, 0, s1) .nil (.node p2 l2 .nil)))).2)))] (by kernel_rfl) rfl rfl hr (stays_cons 0 rfl (away_val _ _) (stays_cons 1 rfl (away_val _ _) (stays_cons 5 rfl (away_nP _ _ _ _) (stays_cons 990 rfl (away_gP _ _ _) (stays_cons 7 rfl (away_val _ _) (stays_cons 8 rfl (away_nT _ _ _ _) (stays_cons 9 rfl (away_val _ _) (stays_cons 10 rfl (away_nT _ _ _ _) (stays_cons 11 rfl (away_nT _ _ _ _) (stays_cons 12 rfl (away_nK _ _ _) (stays_cons 13 rfl (away_nT _ _ _ _) (stays_nil _ _)))))))))))) h ?_
  clear h
  intro a w h
  exact hQ a w (h.keep [990, 6])
set_option maxHeartbeats 1000000 in
theorem bPerm_any (s0 : ByteArray) (s1 : ByteArray) (p2 : Pay) (l2 : Fo) (A2 : Option Addr) (c2 : Nat) (B : Nat) (w : World) (hA2 : ArgsB w B A2 (Tm.len l2) l2) (hB : B ≤ w.heap.size)  : Calls Try.prog 17 #[Value.string s0, Value.string s1, tv p2 A2 (Tm.len l2) c2] w (Makes (Bl.perm s0 s1 p2 l2).1 (Bl.perm s0 s1 p2 l2).2 w) := by
  refine calls_of_wp Try.func17 bPerm_body ?_
  obtain ⟨v0, hv0⟩ : ∃ v : Value, v = Value.string s0 := ⟨_, rfl⟩
  obtain ⟨v1, hv1⟩ : ∃ v : Value, v = Value.string s1 := ⟨_, rfl⟩
  obtain ⟨v2, hv2⟩ : ∃ v : Value, v = tv p2 A2 (Tm.len l2) c2 := ⟨_, rfl⟩
  rw [← hv0, ← hv1, ← hv2]
  have hk0 : (Kd.val (.string s0)).R v0 w := hv0
  have hk1 : (Kd.val (.string s1)).R v1 w := hv1
  have hk2 : (Kd.term p2 l2).R v2 w := by rw [hv2]; exact ⟨A2, c2, rfl, hA2.up hB⟩
  have hsN : (#[v0, v1, v2] ++ Array.replicate (Try.f17.ntmps - #[v0, v1, v2].size) undef : Array Value).size = 14 := by kernel_rfl
  have gs0 : (#[v0, v1, v2] ++ Array.replicate (Try.f17.ntmps - #[v0, v1, v2].size) undef : Array Value).getD 0 undef = v0 := by kernel_rfl
  have gs1 : (#[v0, v1, v2] ++ Array.replicate (Try.f17.ntmps - #[v0, v1, v2].size) undef : Array Value).getD 1 undef = v1 := by kernel_rfl
  have gs2 : (#[v0, v1, v2] ++ Array.replicate (Try.f17.ntmps - #[v0, v1, v2].size) undef : Array Value).getD 2 undef = v2 := by kernel_rfl
  generalize (#[v0, v1, v2] ++ Array.replicate (Try.f17.ntmps - #[v0, v1, v2].size) undef : Array Value) = tm at hsN gs0 gs1 gs2 ⊢
  obtain ⟨a, ha0⟩ : ∃ a : Act, a = ⟨tm, []⟩ := ⟨_, rfl⟩
  have h : Hold 14 [(0, .val (.string s0)), (1, .val (.string s1)), (2, .term p2 l2)] w ⟨tm, []⟩ w := ⟨hsN, rfl, Below.refl _ _, (slots_cons 0 (by rw [gs0]; exact hk0) (slots_cons 1 (by rw [gs1]; exact hk1) (slots_cons 2 (by rw [gs2]; exact hk2) slots_nil)))⟩
  obtain ⟨nb, hnb⟩ : ∃ nb, nb = w.heap.size := ⟨_, rfl⟩
  have hn : nb ≤ w.heap.size := by omega
  refine wp_seq ?_
  refine bPerm0a_region s0 s1 p2 l2 nb  hn h ?_
  intro r a w1 hr h
  show Code.wp _ _ _ a w1
  refine wp_seq ?_
  refine bPerm1a_region s0 s1 p2 l2 nb r  hr h ?_
  intro a w1 h
  show Code.wp _ _ _ a w1
  refine wp_ret ?_
  (try simp only [then_ret, block_ret])
  exact law_cell rfl (h.get 6 rfl) h.defers fun A c ha => ⟨A, c, rfl, ha.mono fun b hb => ⟨by have := hb.1; omega, hb.2.1⟩, h.world⟩
section
variable {ops : Array Oper} {Q : Exit → Act → World → Prop} {E : Nat → Kd} {D : Nat → Nat} {base : Nat → Option Kd} {N : Nat}
theorem step_bPerm {i : Nat} {n g : Nat} {G : Option Nat} {x0 x1 x2 : Operand} {s0 : ByteArray} {s1 : ByteArray} {p2 : Pay} {l2 : Fo} (hop : (ops[i]?).map (·.op) = some (.call { callee := .value (.func 17), args := #[x0, x1, x2], argTypes := #[9, 9, 24] })) (h0 : Opd ops E D base N i x0 (.val (.string s0))) (h1 : Opd ops E D base N i x1 (.val (.string s1))) (h2 : Opd ops E D base N i x2 (.term p2 l2)) (hg : Opd ops E D base N i (.tmp g) (.sat (gP n G))) (hE : E i = .sat (nT n G (Bl.perm s0 s1 p2 l2).1 (Bl.perm s0 s1 p2 l2).2)) : Step Try.prog ops Q E D base N i :=
  step_mk hop (fun _ _ => by kernel_rfl) hg (fun a w h => by
    have e0 : a.eval x0 = .string s0 := h0 a w h
    have e1 : a.eval x1 = .string s1 := h1 a w h
    obtain ⟨A2, c2, e2, ha2⟩ := h2 a w h
    rw [show (#[x0, x1, x2] : Array Operand).map a.eval = #[.string s0, .string s1, tv p2 A2 (Tm.len l2) c2] by rw [← e0, ← e1, ← e2]; simp]
    exact bPerm_any s0 s1 p2 l2 A2 c2 w.heap.size w ha2 (Nat.le_refl _)) hE
end
noncomputable def bRep0Ops : Array Oper := ((Try.f18.body).bind (findReg 0)).getD #[]
noncomputable def bRep1Ops : Array Oper := ((Try.f18.body).bind (findReg 1)).getD #[]
theorem bRep_body : Try.f18.body = some (.seq (.region 0 bRep0Ops false) (.seq (.region 1 bRep1Ops false) .ret)) := by kernel_rfl
theorem bRep0a_region {Q : Exit → Act → World → Prop} (s0 : ByteArray) (nb : Nat)  {w0 : World} {a : Act} {w : World} (hn : nb ≤ w0.heap.size) (h : Hold 7 [(0, .val (.string s0))] w0 a w)
    (hQ : ∀ r a' w', w0.heap.size ≤ r → Hold 7 [(0, .val (.string s0)), (2, .sat (rC nb r zp .nil)), (990, .sat (gP nb (some r)))] w0 a' w' → Q .normal a' w') : (Code.region 0 bRep0Ops false).wp Try.prog Q a w := by
  refine region_seq (w0 := w) 1 (by kernel_rfl) ?_
  rw [show List.range 1 = [0] from rfl]
  refine env_res (i := 0) (d := 2) (n := nb) (fun r => [(0, .val (.string s0))]) (by kernel_rfl) (by decide) (by decide) hn (fun r => (goes_cons 0 rfl (turns_val _ _) (goes_nil _ _))) h ?_
  clear h
  intro r a w hr h
  exact hQ r a w hr (h.keep [0, 2, 990])
theorem bRep1a_region {Q : Exit → Act → World → Prop} (s0 : ByteArray) (nb r : Nat)  {w0 : World} {a : Act} {w : World} (hr : w0.heap.size ≤ r) (h : Hold 7 [(0, .val (.string s0)), (2, .sat (rC nb r zp .nil)), (990, .sat (gP nb (some r)))] w0 a w)
    (hQ : ∀ a' w', Hold 7 [(990, .sat (gP nb (some r))), (2, .sat (rC nb r ((Tm.errOf (⟨#[114, 101, 112, 114, 101, 115, 101, 110, 116, 97, 116, 105, 111, 110, 95, 101, 114, 114, 111, 114]⟩) (.node (2, 0, s0) .nil .nil)).1) ((Tm.errOf (⟨#[114, 101, 112, 114, 101, 115, 101, 110, 116, 97, 116, 105, 111, 110, 95, 101, 114, 114, 111, 114]⟩) (.node (2, 0, s0) .nil .nil)).2)))] w0 a' w' → Q .normal a' w') : (Code.region 1 bRep1Ops false).wp Try.prog Q a w := by
  refine region_seq (w0 := w) 5 (by kernel_rfl) ?_
  rw [show List.range 5 = [0, 1, 2, 3, 4] from rfl]
  refine env_one (i := 0) (d := 3) (k := .val (.string s0)) (step_move (by kernel_rfl) (Opd.of_base 0 rfl) rfl) (by kernel_rfl) (by decide) h ?_
  clear h
  intro a w h
  refine env_one (i := 1) (d := 4) (k := .sat (nT nb (some r) (2, 0, s0) .nil)) (step_atN (g := 990) (by kernel_rfl) (Opd.of_base 3 rfl) (Opd.of_base 990 rfl) rfl) (by kernel_rfl) (by decide) h ?_
  clear h
  intro a w h
  refine env_one (i := 2) (d := 5) (k := .sat (nK nb (some r) (.node (2, 0, s0) .nil .nil))) (step_nslice1 (g := 990) (by kernel_rfl) (Opd.of_base 4 rfl) (Opd.of_base 990 rfl) rfl) (by kernel_rfl) (by decide) h ?_
  clear h
  intro a w h
  refine env_one (i := 3) (d := 6) (k := .sat (nT nb (some r) ((Tm.errOf (⟨#[114, 101, 112, 114, 101, 115, 101, 110, 116, 97, 116, 105, 111, 110, 95, 101, 114, 114, 111, 114]⟩) (.node (2, 0, s0) .nil .nil)).1) ((Tm.errOf (⟨#[114, 101, 112, 114, 101, 115, 101, 110, 116, 97, 116, 105, 111, 110, 95, 101, 114, 114, 111, 114]⟩) (.node (2, 0, s0) .nil .nil)).2))) (step_errT (Nat.le_of_ble_eq_true rfl) (g := 990) (by kernel_rfl) (Opd.const _) (Opd.of_base 5 rfl) (Opd.of_base 990 rfl) rfl) (by kernel_rfl) (by decide) h ?_
  clear h
  intro a w h
  refine env_store (i := 4) (x := 2) (y := 6) (r := r) [(0, .val (.string s0)), (990, .sat (gP nb (some r))), (3, .val (.string s0)), (4, .sat (nT nb (some r) (2, 0, s0) .nil)), (5, .sat (nK nb (some r) (.node (2, 0, s0) .nil .nil))), (6, .sat (nT nb (some r) ((Tm.errOf (⟨#[114, 101, 112, 114, 101, 115, 101, 110, 116, 97, 116, 105, 111, 110, 95, 101, 114, 114, 111, 114]⟩) (.node (2, 0, s0) .nil .nil)).1) ((Tm.errOf (⟨#[114, 101, 112, 114, 101, 115, 101, 110, 116, 97, 116, 105, 111, 110, 95, 101, 114, 114, 111, 114]⟩) (.node (2, 0, s0) .nil .nil)).2)))] (by kernel_rfl) rfl rfl hr (stays_cons 0 rfl (away_val _ _) (stays_cons 990 rfl (away_gP _ _ _) (stays_cons 3 rfl (away_val _ _) (stays_cons 4 rfl (away_nT _ _ _ _) (stays_cons 5 rfl (away_nK _ _ _) (stays_cons 6 rfl (away_nT _ _ _ _) (stays_nil _ _))))))) h ?_
  clear h
  intro a w h
  exact hQ a w (h.keep [990, 2])
set_option maxHeartbeats 1000000 in
theorem bRep_any (s0 : ByteArray) (w : World)   : Calls Try.prog 18 #[Value.string s0] w (Makes (Bl.rep s0).1 (Bl.rep s0).2 w) := by
  refine calls_of_wp Try.func18 bRep_body ?_
  obtain ⟨v0, hv0⟩ : ∃ v : Value, v = Value.string s0 := ⟨_, rfl⟩
  rw [← hv0]
  have hk0 : (Kd.val (.string s0)).R v0 w := hv0
  have hsN : (#[v0] ++ Array.replicate (Try.f18.ntmps - #[v0].size) undef : Array Value).size = 7 := by kernel_rfl
  have gs0 : (#[v0] ++ Array.replicate (Try.f18.ntmps - #[v0].size) undef : Array Value).getD 0 undef = v0 := by kernel_rfl
  generalize (#[v0] ++ Array.replicate (Try.f18.ntmps - #[v0].size) undef : Array Value) = tm at hsN gs0 ⊢
  obtain ⟨a, ha0⟩ : ∃ a : Act, a = ⟨tm, []⟩ := ⟨_, rfl⟩
  have h : Hold 7 [(0, .val (.string s0))] w ⟨tm, []⟩ w := ⟨hsN, rfl, Below.refl _ _, (slots_cons 0 (by rw [gs0]; exact hk0) slots_nil)⟩
  obtain ⟨nb, hnb⟩ : ∃ nb, nb = w.heap.size := ⟨_, rfl⟩
  have hn : nb ≤ w.heap.size := by omega
  refine wp_seq ?_
  refine bRep0a_region s0 nb  hn h ?_
  intro r a w1 hr h
  show Code.wp _ _ _ a w1
  refine wp_seq ?_
  refine bRep1a_region s0 nb r  hr h ?_
  intro a w1 h
  show Code.wp _ _ _ a w1
  refine wp_ret ?_
  (try simp only [then_ret, block_ret])
  exact law_cell rfl (h.get 2 rfl) h.defers fun A c ha => ⟨A, c, rfl, ha.mono fun b hb => ⟨by have := hb.1; omega, hb.2.1⟩, h.world⟩
section
variable {ops : Array Oper} {Q : Exit → Act → World → Prop} {E : Nat → Kd} {D : Nat → Nat} {base : Nat → Option Kd} {N : Nat}
theorem step_bRep {i : Nat} {n g : Nat} {G : Option Nat} {x0 : Operand} {s0 : ByteArray} (hop : (ops[i]?).map (·.op) = some (.call { callee := .value (.func 18), args := #[x0], argTypes := #[9] })) (h0 : Opd ops E D base N i x0 (.val (.string s0))) (hg : Opd ops E D base N i (.tmp g) (.sat (gP n G))) (hE : E i = .sat (nT n G (Bl.rep s0).1 (Bl.rep s0).2)) : Step Try.prog ops Q E D base N i :=
  step_mk hop (fun _ _ => by kernel_rfl) hg (fun a w h => by
    have e0 : a.eval x0 = .string s0 := h0 a w h
    rw [show (#[x0] : Array Operand).map a.eval = #[.string s0] by rw [← e0]; simp]
    exact bRep_any s0 w ) hE
end
noncomputable def bEv0Ops : Array Oper := ((Try.f19.body).bind (findReg 0)).getD #[]
noncomputable def bEv1Ops : Array Oper := ((Try.f19.body).bind (findReg 1)).getD #[]
theorem bEv_body : Try.f19.body = some (.seq (.region 0 bEv0Ops false) (.seq (.region 1 bEv1Ops false) .ret)) := by kernel_rfl
theorem bEv0a_region {Q : Exit → Act → World → Prop} (s0 : ByteArray) (nb : Nat)  {w0 : World} {a : Act} {w : World} (hn : nb ≤ w0.heap.size) (h : Hold 7 [(0, .val (.string s0))] w0 a w)
    (hQ : ∀ r a' w', w0.heap.size ≤ r → Hold 7 [(0, .val (.string s0)), (2, .sat (rC nb r zp .nil)), (990, .sat (gP nb (some r)))] w0 a' w' → Q .normal a' w') : (Code.region 0 bEv0Ops false).wp Try.prog Q a w := by
  refine region_seq (w0 := w) 1 (by kernel_rfl) ?_
  rw [show List.range 1 = [0] from rfl]
  refine env_res (i := 0) (d := 2) (n := nb) (fun r => [(0, .val (.string s0))]) (by kernel_rfl) (by decide) (by decide) hn (fun r => (goes_cons 0 rfl (turns_val _ _) (goes_nil _ _))) h ?_
  clear h
  intro r a w hr h
  exact hQ r a w hr (h.keep [0, 2, 990])
theorem bEv1a_region {Q : Exit → Act → World → Prop} (s0 : ByteArray) (nb r : Nat)  {w0 : World} {a : Act} {w : World} (hr : w0.heap.size ≤ r) (h : Hold 7 [(0, .val (.string s0)), (2, .sat (rC nb r zp .nil)), (990, .sat (gP nb (some r)))] w0 a w)
    (hQ : ∀ a' w', Hold 7 [(990, .sat (gP nb (some r))), (2, .sat (rC nb r ((Tm.errOf (⟨#[101, 118, 97, 108, 117, 97, 116, 105, 111, 110, 95, 101, 114, 114, 111, 114]⟩) (.node (2, 0, s0) .nil .nil)).1) ((Tm.errOf (⟨#[101, 118, 97, 108, 117, 97, 116, 105, 111, 110, 95, 101, 114, 114, 111, 114]⟩) (.node (2, 0, s0) .nil .nil)).2)))] w0 a' w' → Q .normal a' w') : (Code.region 1 bEv1Ops false).wp Try.prog Q a w := by
  refine region_seq (w0 := w) 5 (by kernel_rfl) ?_
  rw [show List.range 5 = [0, 1, 2, 3, 4] from rfl]
  refine env_one (i := 0) (d := 3) (k := .val (.string s0)) (step_move (by kernel_rfl) (Opd.of_base 0 rfl) rfl) (by kernel_rfl) (by decide) h ?_
  clear h
  intro a w h
  refine env_one (i := 1) (d := 4) (k := .sat (nT nb (some r) (2, 0, s0) .nil)) (step_atN (g := 990) (by kernel_rfl) (Opd.of_base 3 rfl) (Opd.of_base 990 rfl) rfl) (by kernel_rfl) (by decide) h ?_
  clear h
  intro a w h
  refine env_one (i := 2) (d := 5) (k := .sat (nK nb (some r) (.node (2, 0, s0) .nil .nil))) (step_nslice1 (g := 990) (by kernel_rfl) (Opd.of_base 4 rfl) (Opd.of_base 990 rfl) rfl) (by kernel_rfl) (by decide) h ?_
  clear h
  intro a w h
  refine env_one (i := 3) (d := 6) (k := .sat (nT nb (some r) ((Tm.errOf (⟨#[101, 118, 97, 108, 117, 97, 116, 105, 111, 110, 95, 101, 114, 114, 111, 114]⟩) (.node (2, 0, s0) .nil .nil)).1) ((Tm.errOf (⟨#[101, 118, 97, 108, 117, 97, 116, 105, 111, 110, 95, 101, 114, 114, 111, 114]⟩) (.node (2, 0, s0) .nil .nil)).2))) (step_errT (Nat.le_of_ble_eq_true rfl) (g := 990) (by kernel_rfl) (Opd.const _) (Opd.of_base 5 rfl) (Opd.of_base 990 rfl) rfl) (by kernel_rfl) (by decide) h ?_
  clear h
  intro a w h
  refine env_store (i := 4) (x := 2) (y := 6) (r := r) [(0, .val (.string s0)), (990, .sat (gP nb (some r))), (3, .val (.string s0)), (4, .sat (nT nb (some r) (2, 0, s0) .nil)), (5, .sat (nK nb (some r) (.node (2, 0, s0) .nil .nil))), (6, .sat (nT nb (some r) ((Tm.errOf (⟨#[101, 118, 97, 108, 117, 97, 116, 105, 111, 110, 95, 101, 114, 114, 111, 114]⟩) (.node (2, 0, s0) .nil .nil)).1) ((Tm.errOf (⟨#[101, 118, 97, 108, 117, 97, 116, 105, 111, 110, 95, 101, 114, 114, 111, 114]⟩) (.node (2, 0, s0) .nil .nil)).2)))] (by kernel_rfl) rfl rfl hr (stays_cons 0 rfl (away_val _ _) (stays_cons 990 rfl (away_gP _ _ _) (stays_cons 3 rfl (away_val _ _) (stays_cons 4 rfl (away_nT _ _ _ _) (stays_cons 5 rfl (away_nK _ _ _) (stays_cons 6 rfl (away_nT _ _ _ _) (stays_nil _ _))))))) h ?_
  clear h
  intro a w h
  exact hQ a w (h.keep [990, 2])
set_option maxHeartbeats 1000000 in
theorem bEv_any (s0 : ByteArray) (w : World)   : Calls Try.prog 19 #[Value.string s0] w (Makes (Bl.ev s0).1 (Bl.ev s0).2 w) := by
  refine calls_of_wp Try.func19 bEv_body ?_
  obtain ⟨v0, hv0⟩ : ∃ v : Value, v = Value.string s0 := ⟨_, rfl⟩
  rw [← hv0]
  have hk0 : (Kd.val (.string s0)).R v0 w := hv0
  have hsN : (#[v0] ++ Array.replicate (Try.f19.ntmps - #[v0].size) undef : Array Value).size = 7 := by kernel_rfl
  have gs0 : (#[v0] ++ Array.replicate (Try.f19.ntmps - #[v0].size) undef : Array Value).getD 0 undef = v0 := by kernel_rfl
  generalize (#[v0] ++ Array.replicate (Try.f19.ntmps - #[v0].size) undef : Array Value) = tm at hsN gs0 ⊢
  obtain ⟨a, ha0⟩ : ∃ a : Act, a = ⟨tm, []⟩ := ⟨_, rfl⟩
  have h : Hold 7 [(0, .val (.string s0))] w ⟨tm, []⟩ w := ⟨hsN, rfl, Below.refl _ _, (slots_cons 0 (by rw [gs0]; exact hk0) slots_nil)⟩
  obtain ⟨nb, hnb⟩ : ∃ nb, nb = w.heap.size := ⟨_, rfl⟩
  have hn : nb ≤ w.heap.size := by omega
  refine wp_seq ?_
  refine bEv0a_region s0 nb  hn h ?_
  intro r a w1 hr h
  show Code.wp _ _ _ a w1
  refine wp_seq ?_
  refine bEv1a_region s0 nb r  hr h ?_
  intro a w1 h
  show Code.wp _ _ _ a w1
  refine wp_ret ?_
  (try simp only [then_ret, block_ret])
  exact law_cell rfl (h.get 2 rfl) h.defers fun A c ha => ⟨A, c, rfl, ha.mono fun b hb => ⟨by have := hb.1; omega, hb.2.1⟩, h.world⟩
section
variable {ops : Array Oper} {Q : Exit → Act → World → Prop} {E : Nat → Kd} {D : Nat → Nat} {base : Nat → Option Kd} {N : Nat}
theorem step_bEv {i : Nat} {n g : Nat} {G : Option Nat} {x0 : Operand} {s0 : ByteArray} (hop : (ops[i]?).map (·.op) = some (.call { callee := .value (.func 19), args := #[x0], argTypes := #[9] })) (h0 : Opd ops E D base N i x0 (.val (.string s0))) (hg : Opd ops E D base N i (.tmp g) (.sat (gP n G))) (hE : E i = .sat (nT n G (Bl.ev s0).1 (Bl.ev s0).2)) : Step Try.prog ops Q E D base N i :=
  step_mk hop (fun _ _ => by kernel_rfl) hg (fun a w h => by
    have e0 : a.eval x0 = .string s0 := h0 a w h
    rw [show (#[x0] : Array Operand).map a.eval = #[.string s0] by rw [← e0]; simp]
    exact bEv_any s0 w ) hE
end
noncomputable def bSyn0Ops : Array Oper := ((Try.f20.body).bind (findReg 0)).getD #[]
noncomputable def bSyn1Ops : Array Oper := ((Try.f20.body).bind (findReg 1)).getD #[]
noncomputable def bSyn2Ops : Array Oper := ((Try.f20.body).bind (findReg 2)).getD #[]
noncomputable def bSyn3Ops : Array Oper := ((Try.f20.body).bind (findReg 3)).getD #[]
theorem bSyn_body : Try.f20.body = some (.seq (.region 0 bSyn0Ops false) (.seq (.seq (.region 1 bSyn1Ops false) (.cond (.tmp 4) (.seq (.region 2 bSyn2Ops false) .ret) .skip)) (.seq (.region 3 bSyn3Ops false) .ret))) := by kernel_rfl
theorem bSyn0a_region {Q : Exit → Act → World → Prop} (s0 : Int) (nb : Nat)  {w0 : World} {a : Act} {w : World} (hn : nb ≤ w0.heap.size) (h : Hold 10 [(0, .val (.int .i64 s0))] w0 a w)
    (hQ : ∀ r a' w', w0.heap.size ≤ r → Hold 10 [(0, .val (.int .i64 s0)), (2, .sat (rC nb r zp .nil)), (990, .sat (gP nb (some r)))] w0 a' w' → Q .normal a' w') : (Code.region 0 bSyn0Ops false).wp Try.prog Q a w := by
  refine region_seq (w0 := w) 1 (by kernel_rfl) ?_
  rw [show List.range 1 = [0] from rfl]
  refine env_res (i := 0) (d := 2) (n := nb) (fun r => [(0, .val (.int .i64 s0))]) (by kernel_rfl) (by decide) (by decide) hn (fun r => (goes_cons 0 rfl (turns_val _ _) (goes_nil _ _))) h ?_
  clear h
  intro r a w hr h
  exact hQ r a w hr (h.keep [0, 2, 990])
theorem bSyn1a_region {Q : Exit → Act → World → Prop} (s0 : Int) (nb r : Nat) (hz : s0 < 0) {w0 : World} {a : Act} {w : World} (hr : w0.heap.size ≤ r) (h : Hold 10 [(0, .val (.int .i64 s0)), (2, .sat (rC nb r zp .nil)), (990, .sat (gP nb (some r)))] w0 a w)
    (hQ : ∀ a' w', Hold 10 [(0, .val (.int .i64 s0)), (2, .sat (rC nb r zp .nil)), (990, .sat (gP nb (some r))), (4, .val (.bool true))] w0 a' w' → Q .normal a' w') : (Code.region 1 bSyn1Ops false).wp Try.prog Q a w := by
  refine region_seq (w0 := w) 2 (by kernel_rfl) ?_
  rw [show List.range 2 = [0, 1] from rfl]
  refine env_one (i := 0) (d := 3) (k := .val (.int .i64 s0)) (step_move (by kernel_rfl) (Opd.of_base 0 rfl) rfl) (by kernel_rfl) (by decide) h ?_
  clear h
  intro a w h
  refine env_one (i := 1) (d := 4) (k := .val (.bool true)) (step_lt_int (m := s0) (n := 0) (by kernel_rfl) (Opd.of_base 3 rfl) (Opd.const _) (decide_eq_true hz) rfl) (by kernel_rfl) (by decide) h ?_
  clear h
  intro a w h
  exact hQ a w (h.keep [0, 2, 990, 4])
theorem bSyn2a_region {Q : Exit → Act → World → Prop} (s0 : Int) (nb r : Nat)  {w0 : World} {a : Act} {w : World} (hr : w0.heap.size ≤ r) (h : Hold 10 [(0, .val (.int .i64 s0)), (2, .sat (rC nb r zp .nil)), (990, .sat (gP nb (some r)))] w0 a w)
    (hQ : ∀ a' w', Hold 10 [(0, .val (.int .i64 s0)), (990, .sat (gP nb (some r))), (2, .sat (rC nb r zp .nil))] w0 a' w' → Q .normal a' w') : (Code.region 2 bSyn2Ops false).wp Try.prog Q a w := by
  refine region_seq (w0 := w) 2 (by kernel_rfl) ?_
  rw [show List.range 2 = [0, 1] from rfl]
  refine env_one (i := 0) (d := 5) (k := .sat (nT nb (some r) zp .nil)) (step_nzero (by kernel_rfl) rfl) (by kernel_rfl) (by decide) h ?_
  clear h
  intro a w h
  refine env_store (i := 1) (x := 2) (y := 5) (r := r) [(0, .val (.int .i64 s0)), (990, .sat (gP nb (some r))), (5, .sat (nT nb (some r) zp .nil))] (by kernel_rfl) rfl rfl hr (stays_cons 0 rfl (away_val _ _) (stays_cons 990 rfl (away_gP _ _ _) (stays_cons 5 rfl (away_nT _ _ _ _) (stays_nil _ _)))) h ?_
  clear h
  intro a w h
  exact hQ a w (h.keep [0, 990, 2])
theorem bSyn1b_region {Q : Exit → Act → World → Prop} (s0 : Int) (nb r : Nat) (hz : ¬ s0 < 0) {w0 : World} {a : Act} {w : World} (hr : w0.heap.size ≤ r) (h : Hold 10 [(0, .val (.int .i64 s0)), (2, .sat (rC nb r zp .nil)), (990, .sat (gP nb (some r)))] w0 a w)
    (hQ : ∀ a' w', Hold 10 [(0, .val (.int .i64 s0)), (2, .sat (rC nb r zp .nil)), (990, .sat (gP nb (some r))), (4, .val (.bool false))] w0 a' w' → Q .normal a' w') : (Code.region 1 bSyn1Ops false).wp Try.prog Q a w := by
  refine region_seq (w0 := w) 2 (by kernel_rfl) ?_
  rw [show List.range 2 = [0, 1] from rfl]
  refine env_one (i := 0) (d := 3) (k := .val (.int .i64 s0)) (step_move (by kernel_rfl) (Opd.of_base 0 rfl) rfl) (by kernel_rfl) (by decide) h ?_
  clear h
  intro a w h
  refine env_one (i := 1) (d := 4) (k := .val (.bool false)) (step_lt_int (m := s0) (n := 0) (by kernel_rfl) (Opd.of_base 3 rfl) (Opd.const _) (decide_eq_false hz) rfl) (by kernel_rfl) (by decide) h ?_
  clear h
  intro a w h
  exact hQ a w (h.keep [0, 2, 990, 4])
theorem bSyn3a_region {Q : Exit → Act → World → Prop} (s0 : Int) (nb r : Nat)  {w0 : World} {a : Act} {w : World} (hr : w0.heap.size ≤ r) (h : Hold 10 [(0, .val (.int .i64 s0)), (2, .sat (rC nb r zp .nil)), (990, .sat (gP nb (some r)))] w0 a w)
    (hQ : ∀ a' w', Hold 10 [(990, .sat (gP nb (some r))), (2, .sat (rC nb r ((Tm.errOf (⟨#[115, 121, 110, 116, 97, 120, 95, 101, 114, 114, 111, 114]⟩) (.node ((Tm.cloneOf (1, s0, ByteArray.empty) .nil).1) ((Tm.cloneOf (1, s0, ByteArray.empty) .nil).2) .nil)).1) ((Tm.errOf (⟨#[115, 121, 110, 116, 97, 120, 95, 101, 114, 114, 111, 114]⟩) (.node ((Tm.cloneOf (1, s0, ByteArray.empty) .nil).1) ((Tm.cloneOf (1, s0, ByteArray.empty) .nil).2) .nil)).2)))] w0 a' w' → Q .normal a' w') : (Code.region 3 bSyn3Ops false).wp Try.prog Q a w := by
  refine region_seq (w0 := w) 5 (by kernel_rfl) ?_
  rw [show List.range 5 = [0, 1, 2, 3, 4] from rfl]
  refine env_one (i := 0) (d := 6) (k := .val (.int .i64 s0)) (step_move (by kernel_rfl) (Opd.of_base 0 rfl) rfl) (by kernel_rfl) (by decide) h ?_
  clear h
  intro a w h
  refine env_one (i := 1) (d := 7) (k := .sat (nT nb (some r) ((Tm.cloneOf (1, s0, ByteArray.empty) .nil).1) ((Tm.cloneOf (1, s0, ByteArray.empty) .nil).2))) (step_int (g := 990) (by kernel_rfl) (Opd.of_base 6 rfl) (Opd.of_base 990 rfl) rfl) (by kernel_rfl) (by decide) h ?_
  clear h
  intro a w h
  refine env_one (i := 2) (d := 8) (k := .sat (nK nb (some r) (.node ((Tm.cloneOf (1, s0, ByteArray.empty) .nil).1) ((Tm.cloneOf (1, s0, ByteArray.empty) .nil).2) .nil))) (step_nslice1 (g := 990) (by kernel_rfl) (Opd.of_base 7 rfl) (Opd.of_base 990 rfl) rfl) (by kernel_rfl) (by decide) h ?_
  clear h
  intro a w h
  refine env_one (i := 3) (d := 9) (k := .sat (nT nb (some r) ((Tm.errOf (⟨#[115, 121, 110, 116, 97, 120, 95, 101, 114, 114, 111, 114]⟩) (.node ((Tm.cloneOf (1, s0, ByteArray.empty) .nil).1) ((Tm.cloneOf (1, s0, ByteArray.empty) .nil).2) .nil)).1) ((Tm.errOf (⟨#[115, 121, 110, 116, 97, 120, 95, 101, 114, 114, 111, 114]⟩) (.node ((Tm.cloneOf (1, s0, ByteArray.empty) .nil).1) ((Tm.cloneOf (1, s0, ByteArray.empty) .nil).2) .nil)).2))) (step_errT (Nat.le_of_ble_eq_true rfl) (g := 990) (by kernel_rfl) (Opd.const _) (Opd.of_base 8 rfl) (Opd.of_base 990 rfl) rfl) (by kernel_rfl) (by decide) h ?_
  clear h
  intro a w h
  refine env_store (i := 4) (x := 2) (y := 9) (r := r) [(0, .val (.int .i64 s0)), (990, .sat (gP nb (some r))), (6, .val (.int .i64 s0)), (7, .sat (nT nb (some r) ((Tm.cloneOf (1, s0, ByteArray.empty) .nil).1) ((Tm.cloneOf (1, s0, ByteArray.empty) .nil).2))), (8, .sat (nK nb (some r) (.node ((Tm.cloneOf (1, s0, ByteArray.empty) .nil).1) ((Tm.cloneOf (1, s0, ByteArray.empty) .nil).2) .nil))), (9, .sat (nT nb (some r) ((Tm.errOf (⟨#[115, 121, 110, 116, 97, 120, 95, 101, 114, 114, 111, 114]⟩) (.node ((Tm.cloneOf (1, s0, ByteArray.empty) .nil).1) ((Tm.cloneOf (1, s0, ByteArray.empty) .nil).2) .nil)).1) ((Tm.errOf (⟨#[115, 121, 110, 116, 97, 120, 95, 101, 114, 114, 111, 114]⟩) (.node ((Tm.cloneOf (1, s0, ByteArray.empty) .nil).1) ((Tm.cloneOf (1, s0, ByteArray.empty) .nil).2) .nil)).2)))] (by kernel_rfl) rfl rfl hr (stays_cons 0 rfl (away_val _ _) (stays_cons 990 rfl (away_gP _ _ _) (stays_cons 6 rfl (away_val _ _) (stays_cons 7 rfl (away_nT _ _ _ _) (stays_cons 8 rfl (away_nK _ _ _) (stays_cons 9 rfl (away_nT _ _ _ _) (stays_nil _ _))))))) h ?_
  clear h
  intro a w h
  exact hQ a w (h.keep [990, 2])
set_option maxHeartbeats 1000000 in
theorem bSyn_any (s0 : Int) (w : World)   : Calls Try.prog 20 #[Value.int .i64 s0] w (Makes (Bl.syn s0).1 (Bl.syn s0).2 w) := by
  refine calls_of_wp Try.func20 bSyn_body ?_
  obtain ⟨v0, hv0⟩ : ∃ v : Value, v = Value.int .i64 s0 := ⟨_, rfl⟩
  rw [← hv0]
  have hk0 : (Kd.val (.int .i64 s0)).R v0 w := hv0
  have hsN : (#[v0] ++ Array.replicate (Try.f20.ntmps - #[v0].size) undef : Array Value).size = 10 := by kernel_rfl
  have gs0 : (#[v0] ++ Array.replicate (Try.f20.ntmps - #[v0].size) undef : Array Value).getD 0 undef = v0 := by kernel_rfl
  generalize (#[v0] ++ Array.replicate (Try.f20.ntmps - #[v0].size) undef : Array Value) = tm at hsN gs0 ⊢
  obtain ⟨a, ha0⟩ : ∃ a : Act, a = ⟨tm, []⟩ := ⟨_, rfl⟩
  have h : Hold 10 [(0, .val (.int .i64 s0))] w ⟨tm, []⟩ w := ⟨hsN, rfl, Below.refl _ _, (slots_cons 0 (by rw [gs0]; exact hk0) slots_nil)⟩
  obtain ⟨nb, hnb⟩ : ∃ nb, nb = w.heap.size := ⟨_, rfl⟩
  have hn : nb ≤ w.heap.size := by omega
  refine wp_seq ?_
  refine bSyn0a_region s0 nb  hn h ?_
  intro r a w1 hr h
  show Code.wp _ _ _ a w1
  refine wp_seq ?_
  refine wp_seq ?_
  by_cases hz : s0 < 0
  · refine bSyn1a_region s0 nb r hz hr h ?_
    intro a w1 h
    show Code.wp _ _ _ a w1
    refine env_cond (b := true) rfl h ?_
    have h := h.keep [0, 2, 990]
    show Code.wp _ _ _ a w1
    refine wp_seq ?_
    refine bSyn2a_region s0 nb r  hr h ?_
    intro a w1 h
    show Code.wp _ _ _ a w1
    have ev : Bl.syn s0 = (zp, .nil) := if_pos hz
    rw [ev]
    refine wp_ret ?_
    (try simp only [then_ret, block_ret])
    exact law_cell rfl (h.get 2 rfl) h.defers fun A c ha => ⟨A, c, rfl, ha.mono fun b hb => ⟨by have := hb.1; omega, hb.2.1⟩, h.world⟩
  · refine bSyn1b_region s0 nb r hz hr h ?_
    intro a w1 h
    show Code.wp _ _ _ a w1
    refine env_cond (b := false) rfl h ?_
    refine wp_skip ?_
    have h := h.keep [0, 2, 990]
    show Code.wp _ _ _ a w1
    refine wp_seq ?_
    refine bSyn3a_region s0 nb r  hr h ?_
    intro a w1 h
    show Code.wp _ _ _ a w1
    have ev : Bl.syn s0 = Tm.errOf Bl.synN (.node (Tm.cloneOf (1, s0, ByteArray.empty) .nil).1 (Tm.cloneOf (1, s0, ByteArray.empty) .nil).2 .nil) := if_neg hz
    rw [ev]
    refine wp_ret ?_
    (try simp only [then_ret, block_ret])
    exact law_cell rfl (h.get 2 rfl) h.defers fun A c ha => ⟨A, c, rfl, ha.mono fun b hb => ⟨by have := hb.1; omega, hb.2.1⟩, h.world⟩
section
variable {ops : Array Oper} {Q : Exit → Act → World → Prop} {E : Nat → Kd} {D : Nat → Nat} {base : Nat → Option Kd} {N : Nat}
theorem step_bSyn {i : Nat} {n g : Nat} {G : Option Nat} {x0 : Operand} {s0 : Int} (hop : (ops[i]?).map (·.op) = some (.call { callee := .value (.func 20), args := #[x0], argTypes := #[3] })) (h0 : Opd ops E D base N i x0 (.val (.int .i64 s0))) (hg : Opd ops E D base N i (.tmp g) (.sat (gP n G))) (hE : E i = .sat (nT n G (Bl.syn s0).1 (Bl.syn s0).2)) : Step Try.prog ops Q E D base N i :=
  step_mk hop (fun _ _ => by kernel_rfl) hg (fun a w h => by
    have e0 : a.eval x0 = .int .i64 s0 := h0 a w h
    rw [show (#[x0] : Array Operand).map a.eval = #[.int .i64 s0] by rw [← e0]; simp]
    exact bSyn_any s0 w ) hE
end
end Go.Proofs.Ytapcnehpechkpaa
