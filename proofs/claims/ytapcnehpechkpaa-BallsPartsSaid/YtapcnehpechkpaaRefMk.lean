/-
  The reference's makers of error terms are the package's.
-/
import Derived.Test.YtapcnehpechkpaaWith
namespace Go.Proofs.Ytapcnehpechkpaa
set_option linter.unusedVariables false
set_option linter.unusedSimpArgs false
set_option maxRecDepth 100000
open Go.RowKit
def sLP (L : List ByteArray) : Pd where
  R := fun v w => ∃ A c, v = .slice A L.length c ∧ StrsIn w.heap.size w A L.length L
  keep := by
    rintro v w w' ⟨A, c, e, h⟩ hb
    exact ⟨A, c, e, h.len, fun h0 => by
      obtain ⟨b, o, e1, hlt, hc⟩ := h.row h0
      exact ⟨b, o, e1, Nat.lt_of_lt_of_le hlt hb.size, fun j s hj => (cell_of_block (p := ⟨b, o + j, none⟩) (hb.block b hlt)).trans (hc j s hj)⟩⟩
section
variable {ops : Array Oper} {Q : Exit → Act → World → Prop} {E : Nat → Kd} {D : Nat → Nat} {base : Nat → Option Kd} {N : Nat}
theorem step_sslice1 {i : Nat} {x0 : Operand} {s0 : ByteArray} (hop : (ops[i]?).map (·.op) = some (.buildSlice 50 1 #[(0, x0)])) (h0 : Opd ops E D base N i x0 (.val (.string s0))) (hE : E i = .sat (sLP [s0])) : Step Try.prog ops Q E D base N i := by
  intro o ho a w hc K hK
  have hxo := op_of ho hop
  obtain ⟨dst, op, ty, pos, after, guard⟩ := o
  have hx' : op = _ := hxo
  subst hx'
  have e0 : a.eval x0 = .string s0 := h0 a w hc
  have hrun : (execOp a.eval ⟨dst, .buildSlice 50 1 #[(0, x0)], ty, pos, after, guard⟩).run Try.prog w = .ok (.value (.slice (some ⟨w.heap.size, 0, none⟩) 1 1)) (w.alloc (.cells #[.string s0] 9)) := by
    unfold execOp
    simp only [List.map_toArray, List.map_cons, List.map_nil, e0]
    go_simp
    try rfl
  unfold Oper.wp
  rw [hrun]
  have hb := alloc_new w (.cells #[.string s0] 9)
  refine hK _ _ (hE ▸ ⟨some ⟨w.heap.size, 0, none⟩, 1, rfl, rfl, fun _ => ⟨w.heap.size, 0, rfl, by simp, fun j s hj => ?_⟩⟩) ((Below.refl _ _).alloc (Nat.le_refl _) _)
  rw [cell_of_row _ _ _ _ _ _ hb]
  match j, hj with
  | 0, hj => cases hj; rfl
  | j + 1, hj => simp at hj
theorem step_sslice2 {i : Nat} {x0 x1 : Operand} {s0 s1 : ByteArray} (hop : (ops[i]?).map (·.op) = some (.buildSlice 50 2 #[(0, x0), (1, x1)])) (h0 : Opd ops E D base N i x0 (.val (.string s0))) (h1 : Opd ops E D base N i x1 (.val (.string s1))) (hE : E i = .sat (sLP [s0, s1])) : Step Try.prog ops Q E D base N i := by
  intro o ho a w hc K hK
  have hxo := op_of ho hop
  obtain ⟨dst, op, ty, pos, after, guard⟩ := o
  have hx' : op = _ := hxo
  subst hx'
  have e0 : a.eval x0 = .string s0 := h0 a w hc
  have e1 : a.eval x1 = .string s1 := h1 a w hc
  have hrun : (execOp a.eval ⟨dst, .buildSlice 50 2 #[(0, x0), (1, x1)], ty, pos, after, guard⟩).run Try.prog w = .ok (.value (.slice (some ⟨w.heap.size, 0, none⟩) 2 2)) (w.alloc (.cells #[.string s0, .string s1] 9)) := by
    unfold execOp
    simp only [List.map_toArray, List.map_cons, List.map_nil, e0, e1]
    go_simp
    try rfl
  unfold Oper.wp
  rw [hrun]
  have hb := alloc_new w (.cells #[.string s0, .string s1] 9)
  refine hK _ _ (hE ▸ ⟨some ⟨w.heap.size, 0, none⟩, 2, rfl, rfl, fun _ => ⟨w.heap.size, 0, rfl, by simp, fun j s hj => ?_⟩⟩) ((Below.refl _ _).alloc (Nat.le_refl _) _)
  rw [cell_of_row _ _ _ _ _ _ hb]
  match j, hj with
  | 0, hj => cases hj; rfl
  | 1, hj => cases hj; rfl
  | j + 2, hj => simp at hj
theorem step_rwith {i n g : Nat} {G : Option Nat} {x y z : Operand} {p : Pay} {l : Fo} {s : ByteArray} {L : List ByteArray} (hL : L.length ≤ 7) (hop : (ops[i]?).map (·.op) = some (.call { callee := .value (.func 66), args := #[x, y, z], argTypes := #[24, 9, 50] })) (hx : Opd ops E D base N i x (.term p l)) (hy : Opd ops E D base N i y (.val (.string s))) (hz : Opd ops E D base N i z (.sat (sLP L))) (hg : Opd ops E D base N i (.tmp g) (.sat (gP n G))) (hE : E i = .sat (nT n G (Bl.refE p l s L).1 (Bl.refE p l s L).2)) : Step Try.prog ops Q E D base N i :=
  step_mk hop (fun _ _ => by kernel_rfl) hg (fun a w h => by
    obtain ⟨A, c, e, ha⟩ := hx a w h
    have e1 : a.eval y = .string s := hy a w h
    obtain ⟨An, cn, e2, hs⟩ := hz a w h
    rw [show (#[x, y, z] : Array Operand).map a.eval = #[tv p A (Tm.len l) c, .string s, .slice An L.length cn] by rw [← e, ← e1, ← e2]; simp]
    exact rwith_any p l A c s L An L.length cn w.heap.size w ha hs hL (Nat.le_refl _)) hE
theorem Opd.nilS {i : Nat} {x : Operand} (h : Opd ops E D base N i x (.val (.slice none 0 0))) : Opd ops E D base N i x (.sat (sLP [])) := fun a w hc => by
  have e : a.eval x = .slice none 0 0 := h a w hc
  exact ⟨none, 0, e, rfl, fun h => absurd h (by decide)⟩
end
theorem Bl.rep_is (k : ByteArray) : Bl.rep k = Bl.ballE (3, 0, Bl.repN) (.node (2, 0, k) .nil .nil) := Bl.err_ref (by decide) ⟨Nat.le_refl _, by simp [Bl.at1, Tm.len]⟩ (by simp [Bl.at1, Tm.size])
theorem Bl.ev_is (k : ByteArray) : Bl.ev k = Bl.ballE (3, 0, Bl.evN) (.node (2, 0, k) .nil .nil) := Bl.err_ref (by decide) ⟨Nat.le_refl _, by simp [Bl.at1, Tm.len]⟩ (by simp [Bl.at1, Tm.size])
theorem Bl.int_clone (z : Int) : Tm.cloneOf (1, z, ByteArray.empty) .nil = ((1, z, ByteArray.empty), .nil) := by
  unfold Tm.cloneOf
  rw [if_pos]
  unfold Tm.validB Tm.goodB Tm.nodeB
  simp [Tm.size, Tm.len, Tm.allB]
theorem Bl.syn_is {z : Int} (h : ¬ z < 0) : Bl.syn z = Bl.ballE (3, 0, Bl.synN) (.node (1, z, ByteArray.empty) .nil .nil) := by
  unfold Bl.syn
  rw [if_neg h, Bl.int_clone]
  exact Bl.err_ref (by decide) ⟨Nat.le_refl _, by simp [Tm.len]⟩ (by simp [Tm.size])
theorem Bl.un_ref (p : Pay) (l : Fo) : Bl.un p l = Bl.refE p l Bl.unN [] := (Bl.refE_eq (s := Bl.unN) (L := []) (by decide) (by simp)).symm
theorem Bl.ty_ref (k : ByteArray) (p : Pay) (l : Fo) : Bl.ty k p l = Bl.refE p l Bl.tyN [k] := (Bl.refE_eq (s := Bl.tyN) (L := [k]) (by decide) (by simp)).symm
theorem Bl.dom_ref (k : ByteArray) (p : Pay) (l : Fo) : Bl.dom k p l = Bl.refE p l Bl.domN [k] := (Bl.refE_eq (s := Bl.domN) (L := [k]) (by decide) (by simp)).symm
theorem Bl.ext_ref (k : ByteArray) (p : Pay) (l : Fo) : Bl.ext k p l = Bl.refE p l Bl.extN [k] := (Bl.refE_eq (s := Bl.extN) (L := [k]) (by decide) (by simp)).symm
theorem Bl.perm_ref (a k : ByteArray) (p : Pay) (l : Fo) : Bl.perm a k p l = Bl.refE p l Bl.permN [a, k] := (Bl.refE_eq (s := Bl.permN) (L := [a, k]) (by decide) (by simp)).symm
theorem Bl.inst_ref : Bl.inst = Bl.ballE (2, 0, Bl.instN) .nil := by kernel_rfl
noncomputable def rInst0Ops : Array Oper := ((Try.f21.body).bind (findReg 0)).getD #[]
noncomputable def rInst1Ops : Array Oper := ((Try.f21.body).bind (findReg 1)).getD #[]
theorem rInst_body : Try.f21.body = some (.seq (.region 0 rInst0Ops false) (.seq (.region 1 rInst1Ops false) .ret)) := by kernel_rfl
theorem rInst0a_region {Q : Exit → Act → World → Prop}  (nb : Nat)  {w0 : World} {a : Act} {w : World} (hn : nb ≤ w0.heap.size) (h : Hold 3 [] w0 a w)
    (hQ : ∀ r a' w', w0.heap.size ≤ r → Hold 3 [(0, .sat (rC nb r zp .nil)), (990, .sat (gP nb (some r)))] w0 a' w' → Q .normal a' w') : (Code.region 0 rInst0Ops false).wp Try.prog Q a w := by
  refine region_seq (w0 := w) 1 (by kernel_rfl) ?_
  rw [show List.range 1 = [0] from rfl]
  refine env_res (i := 0) (d := 0) (n := nb) (fun r => []) (by kernel_rfl) (by decide) (by decide) hn (fun r => (goes_nil _ _)) h ?_
  clear h
  intro r a w hr h
  exact hQ r a w hr (h.keep [0, 990])
theorem rInst1a_region {Q : Exit → Act → World → Prop}  (nb r : Nat)  {w0 : World} {a : Act} {w : World} (hr : w0.heap.size ≤ r) (h : Hold 3 [(0, .sat (rC nb r zp .nil)), (990, .sat (gP nb (some r)))] w0 a w)
    (hQ : ∀ a' w', Hold 3 [(990, .sat (gP nb (some r))), (0, .sat (rC nb r ((Bl.ballE (2, 0, (⟨#[105, 110, 115, 116, 97, 110, 116, 105, 97, 116, 105, 111, 110, 95, 101, 114, 114, 111, 114]⟩)) .nil).1) ((Bl.ballE (2, 0, (⟨#[105, 110, 115, 116, 97, 110, 116, 105, 97, 116, 105, 111, 110, 95, 101, 114, 114, 111, 114]⟩)) .nil).2)))] w0 a' w' → Q .normal a' w') : (Code.region 1 rInst1Ops false).wp Try.prog Q a w := by
  refine region_seq (w0 := w) 3 (by kernel_rfl) ?_
  rw [show List.range 3 = [0, 1, 2] from rfl]
  refine env_one (i := 0) (d := 1) (k := .sat (nT nb (some r) (2, 0, (⟨#[105, 110, 115, 116, 97, 110, 116, 105, 97, 116, 105, 111, 110, 95, 101, 114, 114, 111, 114]⟩)) .nil)) (step_rat6 (g := 990) (by kernel_rfl) (Opd.const _) (Opd.of_base 990 rfl) rfl) (by kernel_rfl) (by decide) h ?_
  clear h
  intro a w h
  refine env_one (i := 1) (d := 2) (k := .sat (nT nb (some r) ((Bl.ballE (2, 0, (⟨#[105, 110, 115, 116, 97, 110, 116, 105, 97, 116, 105, 111, 110, 95, 101, 114, 114, 111, 114]⟩)) .nil).1) ((Bl.ballE (2, 0, (⟨#[105, 110, 115, 116, 97, 110, 116, 105, 97, 116, 105, 111, 110, 95, 101, 114, 114, 111, 114]⟩)) .nil).2))) (step_rball (g := 990) (by kernel_rfl) (Opd.ofT (Opd.of_base 1 rfl)) (Opd.of_base 990 rfl) rfl) (by kernel_rfl) (by decide) h ?_
  clear h
  intro a w h
  refine env_store (i := 2) (x := 0) (y := 2) (r := r) [(990, .sat (gP nb (some r))), (1, .sat (nT nb (some r) (2, 0, (⟨#[105, 110, 115, 116, 97, 110, 116, 105, 97, 116, 105, 111, 110, 95, 101, 114, 114, 111, 114]⟩)) .nil)), (2, .sat (nT nb (some r) ((Bl.ballE (2, 0, (⟨#[105, 110, 115, 116, 97, 110, 116, 105, 97, 116, 105, 111, 110, 95, 101, 114, 114, 111, 114]⟩)) .nil).1) ((Bl.ballE (2, 0, (⟨#[105, 110, 115, 116, 97, 110, 116, 105, 97, 116, 105, 111, 110, 95, 101, 114, 114, 111, 114]⟩)) .nil).2)))] (by kernel_rfl) rfl rfl hr (stays_cons 990 rfl (away_gP _ _ _) (stays_cons 1 rfl (away_nT _ _ _ _) (stays_cons 2 rfl (away_nT _ _ _ _) (stays_nil _ _)))) h ?_
  clear h
  intro a w h
  exact hQ a w (h.keep [990, 0])
set_option maxHeartbeats 1000000 in
theorem rInst_any  (w : World)   : Calls Try.prog 21 #[] w (Makes Bl.inst.1 Bl.inst.2 w) := by
  refine calls_of_wp Try.func21 rInst_body ?_
  have hsN : ((#[] : Array Value) ++ Array.replicate (Try.f21.ntmps - (#[] : Array Value).size) undef : Array Value).size = 3 := by kernel_rfl
  generalize ((#[] : Array Value) ++ Array.replicate (Try.f21.ntmps - (#[] : Array Value).size) undef : Array Value) = tm at hsN  ⊢
  obtain ⟨a, ha0⟩ : ∃ a : Act, a = ⟨tm, []⟩ := ⟨_, rfl⟩
  have h : Hold 3 [] w ⟨tm, []⟩ w := ⟨hsN, rfl, Below.refl _ _, slots_nil⟩
  obtain ⟨nb, hnb⟩ : ∃ nb, nb = w.heap.size := ⟨_, rfl⟩
  have hn : nb ≤ w.heap.size := by omega
  refine wp_seq ?_
  refine rInst0a_region  nb  hn h ?_
  intro r a w1 hr h
  show Code.wp _ _ _ a w1
  refine wp_seq ?_
  refine rInst1a_region  nb r  hr h ?_
  intro a w1 h
  show Code.wp _ _ _ a w1
  have ev : Bl.inst = Bl.ballE (2, 0, ⟨#[105, 110, 115, 116, 97, 110, 116, 105, 97, 116, 105, 111, 110, 95, 101, 114, 114, 111, 114]⟩) .nil := Bl.inst_ref
  rw [ev]
  refine wp_ret ?_
  (try simp only [then_ret, block_ret])
  exact law_cell rfl (h.get 0 rfl) h.defers fun A c ha => ⟨A, c, rfl, ha.mono fun b hb => ⟨by have := hb.1; omega, hb.2.1⟩, h.world⟩
section
variable {ops : Array Oper} {Q : Exit → Act → World → Prop} {E : Nat → Kd} {D : Nat → Nat} {base : Nat → Option Kd} {N : Nat}
theorem step_rInst {i : Nat} {n g : Nat} {G : Option Nat}  (hop : (ops[i]?).map (·.op) = some (.call { callee := .value (.func 21), args := #[], argTypes := #[] })) (hg : Opd ops E D base N i (.tmp g) (.sat (gP n G))) (hE : E i = .sat (nT n G Bl.inst.1 Bl.inst.2)) : Step Try.prog ops Q E D base N i :=
  step_mk hop (fun _ _ => by kernel_rfl) hg (fun a w h => by
    rw [show (#[] : Array Operand).map a.eval = #[] from by simp]
    exact rInst_any  w ) hE
end
noncomputable def rUn0Ops : Array Oper := ((Try.f22.body).bind (findReg 0)).getD #[]
noncomputable def rUn1Ops : Array Oper := ((Try.f22.body).bind (findReg 1)).getD #[]
theorem rUn_body : Try.f22.body = some (.seq (.region 0 rUn0Ops false) (.seq (.region 1 rUn1Ops false) .ret)) := by kernel_rfl
theorem rUn0a_region {Q : Exit → Act → World → Prop} (p0 : Pay) (l0 : Fo) (nb : Nat)  {w0 : World} {a : Act} {w : World} (hn : nb ≤ w0.heap.size) (h : Hold 5 [(0, .term p0 l0)] w0 a w)
    (hQ : ∀ r a' w', w0.heap.size ≤ r → Hold 5 [(1, .sat (nP 0 (some r) p0 l0)), (2, .sat (rC nb r zp .nil)), (990, .sat (gP nb (some r)))] w0 a' w' → Q .normal a' w') : (Code.region 0 rUn0Ops false).wp Try.prog Q a w := by
  refine region_seq (w0 := w) 2 (by kernel_rfl) ?_
  rw [show List.range 2 = [0, 1] from rfl]
  refine env_one (i := 0) (d := 1) (k := .ptrT p0 l0) (step_box (by kernel_rfl) (Opd.of_base 0 rfl) rfl) (by kernel_rfl) (by decide) h ?_
  clear h
  intro a w h
  refine env_res (i := 1) (d := 2) (n := nb) (fun r => [(0, .sat (nT 0 (some r) p0 l0)), (1, .sat (nP 0 (some r) p0 l0))]) (by kernel_rfl) (by decide) (by decide) hn (fun r => (goes_cons 0 rfl (turns_term _ _ _) (goes_cons 1 rfl (turns_ptr _ _ _) (goes_nil _ _)))) h ?_
  clear h
  intro r a w hr h
  exact hQ r a w hr (h.keep [1, 2, 990])
theorem rUn1a_region {Q : Exit → Act → World → Prop} (p0 : Pay) (l0 : Fo) (nb r : Nat)  {w0 : World} {a : Act} {w : World} (hr : w0.heap.size ≤ r) (h : Hold 5 [(1, .sat (nP 0 (some r) p0 l0)), (2, .sat (rC nb r zp .nil)), (990, .sat (gP nb (some r)))] w0 a w)
    (hQ : ∀ a' w', Hold 5 [(990, .sat (gP nb (some r))), (2, .sat (rC nb r ((Bl.refE p0 l0 (⟨#[117, 110, 105, 110, 115, 116, 97, 110, 116, 105, 97, 116, 105, 111, 110, 95, 101, 114, 114, 111, 114]⟩) []).1) ((Bl.refE p0 l0 (⟨#[117, 110, 105, 110, 115, 116, 97, 110, 116, 105, 97, 116, 105, 111, 110, 95, 101, 114, 114, 111, 114]⟩) []).2)))] w0 a' w' → Q .normal a' w') : (Code.region 1 rUn1Ops false).wp Try.prog Q a w := by
  refine region_seq (w0 := w) 3 (by kernel_rfl) ?_
  rw [show List.range 3 = [0, 1, 2] from rfl]
  refine env_one (i := 0) (d := 3) (k := .sat (nT 0 (some r) p0 l0)) (step_nload (by kernel_rfl) (Opd.of_base 1 rfl) rfl) (by kernel_rfl) (by decide) h ?_
  clear h
  intro a w h
  refine env_one (i := 1) (d := 4) (k := .sat (nT nb (some r) ((Bl.refE p0 l0 (⟨#[117, 110, 105, 110, 115, 116, 97, 110, 116, 105, 97, 116, 105, 111, 110, 95, 101, 114, 114, 111, 114]⟩) []).1) ((Bl.refE p0 l0 (⟨#[117, 110, 105, 110, 115, 116, 97, 110, 116, 105, 97, 116, 105, 111, 110, 95, 101, 114, 114, 111, 114]⟩) []).2))) (step_rwith (g := 990) (Nat.le_of_ble_eq_true rfl) (by kernel_rfl) (Opd.ofT (Opd.of_base 3 rfl)) (Opd.const _) (Opd.nilS (Opd.const _)) (Opd.of_base 990 rfl) rfl) (by kernel_rfl) (by decide) h ?_
  clear h
  intro a w h
  refine env_store (i := 2) (x := 2) (y := 4) (r := r) [(1, .sat (nP 0 (some r) p0 l0)), (990, .sat (gP nb (some r))), (3, .sat (nT 0 (some r) p0 l0)), (4, .sat (nT nb (some r) ((Bl.refE p0 l0 (⟨#[117, 110, 105, 110, 115, 116, 97, 110, 116, 105, 97, 116, 105, 111, 110, 95, 101, 114, 114, 111, 114]⟩) []).1) ((Bl.refE p0 l0 (⟨#[117, 110, 105, 110, 115, 116, 97, 110, 116, 105, 97, 116, 105, 111, 110, 95, 101, 114, 114, 111, 114]⟩) []).2)))] (by kernel_rfl) rfl rfl hr (stays_cons 1 rfl (away_nP _ _ _ _) (stays_cons 990 rfl (away_gP _ _ _) (stays_cons 3 rfl (away_nT _ _ _ _) (stays_cons 4 rfl (away_nT _ _ _ _) (stays_nil _ _))))) h ?_
  clear h
  intro a w h
  exact hQ a w (h.keep [990, 2])
set_option maxHeartbeats 1000000 in
theorem rUn_any (p0 : Pay) (l0 : Fo) (A0 : Option Addr) (c0 : Nat) (B : Nat) (w : World) (hA0 : ArgsB w B A0 (Tm.len l0) l0) (hB : B ≤ w.heap.size)  : Calls Try.prog 22 #[tv p0 A0 (Tm.len l0) c0] w (Makes (Bl.un p0 l0).1 (Bl.un p0 l0).2 w) := by
  refine calls_of_wp Try.func22 rUn_body ?_
  obtain ⟨v0, hv0⟩ : ∃ v : Value, v = tv p0 A0 (Tm.len l0) c0 := ⟨_, rfl⟩
  rw [← hv0]
  have hk0 : (Kd.term p0 l0).R v0 w := by rw [hv0]; exact ⟨A0, c0, rfl, hA0.up hB⟩
  have hsN : (#[v0] ++ Array.replicate (Try.f22.ntmps - #[v0].size) undef : Array Value).size = 5 := by kernel_rfl
  have gs0 : (#[v0] ++ Array.replicate (Try.f22.ntmps - #[v0].size) undef : Array Value).getD 0 undef = v0 := by kernel_rfl
  generalize (#[v0] ++ Array.replicate (Try.f22.ntmps - #[v0].size) undef : Array Value) = tm at hsN gs0 ⊢
  obtain ⟨a, ha0⟩ : ∃ a : Act, a = ⟨tm, []⟩ := ⟨_, rfl⟩
  have h : Hold 5 [(0, .term p0 l0)] w ⟨tm, []⟩ w := ⟨hsN, rfl, Below.refl _ _, (slots_cons 0 (by rw [gs0]; exact hk0) slots_nil)⟩
  obtain ⟨nb, hnb⟩ : ∃ nb, nb = w.heap.size := ⟨_, rfl⟩
  have hn : nb ≤ w.heap.size := by omega
  refine wp_seq ?_
  refine rUn0a_region p0 l0 nb  hn h ?_
  intro r a w1 hr h
  show Code.wp _ _ _ a w1
  refine wp_seq ?_
  refine rUn1a_region p0 l0 nb r  hr h ?_
  intro a w1 h
  show Code.wp _ _ _ a w1
  have ev : Bl.un p0 l0 = Bl.refE p0 l0 ⟨#[117, 110, 105, 110, 115, 116, 97, 110, 116, 105, 97, 116, 105, 111, 110, 95, 101, 114, 114, 111, 114]⟩ [] := Bl.un_ref p0 l0
  rw [ev]
  refine wp_ret ?_
  (try simp only [then_ret, block_ret])
  exact law_cell rfl (h.get 2 rfl) h.defers fun A c ha => ⟨A, c, rfl, ha.mono fun b hb => ⟨by have := hb.1; omega, hb.2.1⟩, h.world⟩
section
variable {ops : Array Oper} {Q : Exit → Act → World → Prop} {E : Nat → Kd} {D : Nat → Nat} {base : Nat → Option Kd} {N : Nat}
theorem step_rUn {i : Nat} {n g : Nat} {G : Option Nat} {x0 : Operand} {p0 : Pay} {l0 : Fo} (hop : (ops[i]?).map (·.op) = some (.call { callee := .value (.func 22), args := #[x0], argTypes := #[24] })) (h0 : Opd ops E D base N i x0 (.term p0 l0)) (hg : Opd ops E D base N i (.tmp g) (.sat (gP n G))) (hE : E i = .sat (nT n G (Bl.un p0 l0).1 (Bl.un p0 l0).2)) : Step Try.prog ops Q E D base N i :=
  step_mk hop (fun _ _ => by kernel_rfl) hg (fun a w h => by
    obtain ⟨A0, c0, e0, ha0⟩ := h0 a w h
    rw [show (#[x0] : Array Operand).map a.eval = #[tv p0 A0 (Tm.len l0) c0] by rw [← e0]; simp]
    exact rUn_any p0 l0 A0 c0 w.heap.size w ha0 (Nat.le_refl _)) hE
end
noncomputable def rTy0Ops : Array Oper := ((Try.f23.body).bind (findReg 0)).getD #[]
noncomputable def rTy1Ops : Array Oper := ((Try.f23.body).bind (findReg 1)).getD #[]
theorem rTy_body : Try.f23.body = some (.seq (.region 0 rTy0Ops false) (.seq (.region 1 rTy1Ops false) .ret)) := by kernel_rfl
theorem rTy0a_region {Q : Exit → Act → World → Prop} (s0 : ByteArray) (p1 : Pay) (l1 : Fo) (nb : Nat)  {w0 : World} {a : Act} {w : World} (hn : nb ≤ w0.heap.size) (h : Hold 9 [(0, .val (.string s0)), (1, .term p1 l1)] w0 a w)
    (hQ : ∀ r a' w', w0.heap.size ≤ r → Hold 9 [(0, .val (.string s0)), (3, .sat (nP 0 (some r) p1 l1)), (4, .sat (rC nb r zp .nil)), (990, .sat (gP nb (some r)))] w0 a' w' → Q .normal a' w') : (Code.region 0 rTy0Ops false).wp Try.prog Q a w := by
  refine region_seq (w0 := w) 2 (by kernel_rfl) ?_
  rw [show List.range 2 = [0, 1] from rfl]
  refine env_one (i := 0) (d := 3) (k := .ptrT p1 l1) (step_box (by kernel_rfl) (Opd.of_base 1 rfl) rfl) (by kernel_rfl) (by decide) h ?_
  clear h
  intro a w h
  refine env_res (i := 1) (d := 4) (n := nb) (fun r => [(0, .val (.string s0)), (1, .sat (nT 0 (some r) p1 l1)), (3, .sat (nP 0 (some r) p1 l1))]) (by kernel_rfl) (by decide) (by decide) hn (fun r => (goes_cons 0 rfl (turns_val _ _) (goes_cons 1 rfl (turns_term _ _ _) (goes_cons 3 rfl (turns_ptr _ _ _) (goes_nil _ _))))) h ?_
  clear h
  intro r a w hr h
  exact hQ r a w hr (h.keep [0, 3, 4, 990])
theorem rTy1a_region {Q : Exit → Act → World → Prop} (s0 : ByteArray) (p1 : Pay) (l1 : Fo) (nb r : Nat)  {w0 : World} {a : Act} {w : World} (hr : w0.heap.size ≤ r) (h : Hold 9 [(0, .val (.string s0)), (3, .sat (nP 0 (some r) p1 l1)), (4, .sat (rC nb r zp .nil)), (990, .sat (gP nb (some r)))] w0 a w)
    (hQ : ∀ a' w', Hold 9 [(990, .sat (gP nb (some r))), (4, .sat (rC nb r ((Bl.refE p1 l1 (⟨#[116, 121, 112, 101, 95, 101, 114, 114, 111, 114]⟩) [s0]).1) ((Bl.refE p1 l1 (⟨#[116, 121, 112, 101, 95, 101, 114, 114, 111, 114]⟩) [s0]).2)))] w0 a' w' → Q .normal a' w') : (Code.region 1 rTy1Ops false).wp Try.prog Q a w := by
  refine region_seq (w0 := w) 5 (by kernel_rfl) ?_
  rw [show List.range 5 = [0, 1, 2, 3, 4] from rfl]
  refine env_one (i := 0) (d := 5) (k := .sat (nT 0 (some r) p1 l1)) (step_nload (by kernel_rfl) (Opd.of_base 3 rfl) rfl) (by kernel_rfl) (by decide) h ?_
  clear h
  intro a w h
  refine env_one (i := 1) (d := 6) (k := .val (.string s0)) (step_move (by kernel_rfl) (Opd.of_base 0 rfl) rfl) (by kernel_rfl) (by decide) h ?_
  clear h
  intro a w h
  refine env_one (i := 2) (d := 7) (k := .sat (sLP [s0])) (step_sslice1 (by kernel_rfl) (Opd.of_base 6 rfl) rfl) (by kernel_rfl) (by decide) h ?_
  clear h
  intro a w h
  refine env_one (i := 3) (d := 8) (k := .sat (nT nb (some r) ((Bl.refE p1 l1 (⟨#[116, 121, 112, 101, 95, 101, 114, 114, 111, 114]⟩) [s0]).1) ((Bl.refE p1 l1 (⟨#[116, 121, 112, 101, 95, 101, 114, 114, 111, 114]⟩) [s0]).2))) (step_rwith (g := 990) (Nat.le_of_ble_eq_true rfl) (by kernel_rfl) (Opd.ofT (Opd.of_base 5 rfl)) (Opd.const _) (Opd.of_base 7 rfl) (Opd.of_base 990 rfl) rfl) (by kernel_rfl) (by decide) h ?_
  clear h
  intro a w h
  refine env_store (i := 4) (x := 4) (y := 8) (r := r) [(0, .val (.string s0)), (3, .sat (nP 0 (some r) p1 l1)), (990, .sat (gP nb (some r))), (5, .sat (nT 0 (some r) p1 l1)), (6, .val (.string s0)), (8, .sat (nT nb (some r) ((Bl.refE p1 l1 (⟨#[116, 121, 112, 101, 95, 101, 114, 114, 111, 114]⟩) [s0]).1) ((Bl.refE p1 l1 (⟨#[116, 121, 112, 101, 95, 101, 114, 114, 111, 114]⟩) [s0]).2)))] (by kernel_rfl) rfl rfl hr (stays_cons 0 rfl (away_val _ _) (stays_cons 3 rfl (away_nP _ _ _ _) (stays_cons 990 rfl (away_gP _ _ _) (stays_cons 5 rfl (away_nT _ _ _ _) (stays_cons 6 rfl (away_val _ _) (stays_cons 8 rfl (away_nT _ _ _ _) (stays_nil _ _))))))) h ?_
  clear h
  intro a w h
  exact hQ a w (h.keep [990, 4])
set_option maxHeartbeats 1000000 in
theorem rTy_any (s0 : ByteArray) (p1 : Pay) (l1 : Fo) (A1 : Option Addr) (c1 : Nat) (B : Nat) (w : World) (hA1 : ArgsB w B A1 (Tm.len l1) l1) (hB : B ≤ w.heap.size)  : Calls Try.prog 23 #[Value.string s0, tv p1 A1 (Tm.len l1) c1] w (Makes (Bl.ty s0 p1 l1).1 (Bl.ty s0 p1 l1).2 w) := by
  refine calls_of_wp Try.func23 rTy_body ?_
  obtain ⟨v0, hv0⟩ : ∃ v : Value, v = Value.string s0 := ⟨_, rfl⟩
  obtain ⟨v1, hv1⟩ : ∃ v : Value, v = tv p1 A1 (Tm.len l1) c1 := ⟨_, rfl⟩
  rw [← hv0, ← hv1]
  have hk0 : (Kd.val (.string s0)).R v0 w := hv0
  have hk1 : (Kd.term p1 l1).R v1 w := by rw [hv1]; exact ⟨A1, c1, rfl, hA1.up hB⟩
  have hsN : (#[v0, v1] ++ Array.replicate (Try.f23.ntmps - #[v0, v1].size) undef : Array Value).size = 9 := by kernel_rfl
  have gs0 : (#[v0, v1] ++ Array.replicate (Try.f23.ntmps - #[v0, v1].size) undef : Array Value).getD 0 undef = v0 := by kernel_rfl
  have gs1 : (#[v0, v1] ++ Array.replicate (Try.f23.ntmps - #[v0, v1].size) undef : Array Value).getD 1 undef = v1 := by kernel_rfl
  generalize (#[v0, v1] ++ Array.replicate (Try.f23.ntmps - #[v0, v1].size) undef : Array Value) = tm at hsN gs0 gs1 ⊢
  obtain ⟨a, ha0⟩ : ∃ a : Act, a = ⟨tm, []⟩ := ⟨_, rfl⟩
  have h : Hold 9 [(0, .val (.string s0)), (1, .term p1 l1)] w ⟨tm, []⟩ w := ⟨hsN, rfl, Below.refl _ _, (slots_cons 0 (by rw [gs0]; exact hk0) (slots_cons 1 (by rw [gs1]; exact hk1) slots_nil))⟩
  obtain ⟨nb, hnb⟩ : ∃ nb, nb = w.heap.size := ⟨_, rfl⟩
  have hn : nb ≤ w.heap.size := by omega
  refine wp_seq ?_
  refine rTy0a_region s0 p1 l1 nb  hn h ?_
  intro r a w1 hr h
  show Code.wp _ _ _ a w1
  refine wp_seq ?_
  refine rTy1a_region s0 p1 l1 nb r  hr h ?_
  intro a w1 h
  show Code.wp _ _ _ a w1
  have ev : Bl.ty s0 p1 l1 = Bl.refE p1 l1 ⟨#[116, 121, 112, 101, 95, 101, 114, 114, 111, 114]⟩ [s0] := Bl.ty_ref s0 p1 l1
  rw [ev]
  refine wp_ret ?_
  (try simp only [then_ret, block_ret])
  exact law_cell rfl (h.get 4 rfl) h.defers fun A c ha => ⟨A, c, rfl, ha.mono fun b hb => ⟨by have := hb.1; omega, hb.2.1⟩, h.world⟩
section
variable {ops : Array Oper} {Q : Exit → Act → World → Prop} {E : Nat → Kd} {D : Nat → Nat} {base : Nat → Option Kd} {N : Nat}
theorem step_rTy {i : Nat} {n g : Nat} {G : Option Nat} {x0 x1 : Operand} {s0 : ByteArray} {p1 : Pay} {l1 : Fo} (hop : (ops[i]?).map (·.op) = some (.call { callee := .value (.func 23), args := #[x0, x1], argTypes := #[9, 24] })) (h0 : Opd ops E D base N i x0 (.val (.string s0))) (h1 : Opd ops E D base N i x1 (.term p1 l1)) (hg : Opd ops E D base N i (.tmp g) (.sat (gP n G))) (hE : E i = .sat (nT n G (Bl.ty s0 p1 l1).1 (Bl.ty s0 p1 l1).2)) : Step Try.prog ops Q E D base N i :=
  step_mk hop (fun _ _ => by kernel_rfl) hg (fun a w h => by
    have e0 : a.eval x0 = .string s0 := h0 a w h
    obtain ⟨A1, c1, e1, ha1⟩ := h1 a w h
    rw [show (#[x0, x1] : Array Operand).map a.eval = #[.string s0, tv p1 A1 (Tm.len l1) c1] by rw [← e0, ← e1]; simp]
    exact rTy_any s0 p1 l1 A1 c1 w.heap.size w ha1 (Nat.le_refl _)) hE
end
noncomputable def rDom0Ops : Array Oper := ((Try.f24.body).bind (findReg 0)).getD #[]
noncomputable def rDom1Ops : Array Oper := ((Try.f24.body).bind (findReg 1)).getD #[]
theorem rDom_body : Try.f24.body = some (.seq (.region 0 rDom0Ops false) (.seq (.region 1 rDom1Ops false) .ret)) := by kernel_rfl
theorem rDom0a_region {Q : Exit → Act → World → Prop} (s0 : ByteArray) (p1 : Pay) (l1 : Fo) (nb : Nat)  {w0 : World} {a : Act} {w : World} (hn : nb ≤ w0.heap.size) (h : Hold 9 [(0, .val (.string s0)), (1, .term p1 l1)] w0 a w)
    (hQ : ∀ r a' w', w0.heap.size ≤ r → Hold 9 [(0, .val (.string s0)), (3, .sat (nP 0 (some r) p1 l1)), (4, .sat (rC nb r zp .nil)), (990, .sat (gP nb (some r)))] w0 a' w' → Q .normal a' w') : (Code.region 0 rDom0Ops false).wp Try.prog Q a w := by
  refine region_seq (w0 := w) 2 (by kernel_rfl) ?_
  rw [show List.range 2 = [0, 1] from rfl]
  refine env_one (i := 0) (d := 3) (k := .ptrT p1 l1) (step_box (by kernel_rfl) (Opd.of_base 1 rfl) rfl) (by kernel_rfl) (by decide) h ?_
  clear h
  intro a w h
  refine env_res (i := 1) (d := 4) (n := nb) (fun r => [(0, .val (.string s0)), (1, .sat (nT 0 (some r) p1 l1)), (3, .sat (nP 0 (some r) p1 l1))]) (by kernel_rfl) (by decide) (by decide) hn (fun r => (goes_cons 0 rfl (turns_val _ _) (goes_cons 1 rfl (turns_term _ _ _) (goes_cons 3 rfl (turns_ptr _ _ _) (goes_nil _ _))))) h ?_
  clear h
  intro r a w hr h
  exact hQ r a w hr (h.keep [0, 3, 4, 990])
theorem rDom1a_region {Q : Exit → Act → World → Prop} (s0 : ByteArray) (p1 : Pay) (l1 : Fo) (nb r : Nat)  {w0 : World} {a : Act} {w : World} (hr : w0.heap.size ≤ r) (h : Hold 9 [(0, .val (.string s0)), (3, .sat (nP 0 (some r) p1 l1)), (4, .sat (rC nb r zp .nil)), (990, .sat (gP nb (some r)))] w0 a w)
    (hQ : ∀ a' w', Hold 9 [(990, .sat (gP nb (some r))), (4, .sat (rC nb r ((Bl.refE p1 l1 (⟨#[100, 111, 109, 97, 105, 110, 95, 101, 114, 114, 111, 114]⟩) [s0]).1) ((Bl.refE p1 l1 (⟨#[100, 111, 109, 97, 105, 110, 95, 101, 114, 114, 111, 114]⟩) [s0]).2)))] w0 a' w' → Q .normal a' w') : (Code.region 1 rDom1Ops false).wp Try.prog Q a w := by
  refine region_seq (w0 := w) 5 (by kernel_rfl) ?_
  rw [show List.range 5 = [0, 1, 2, 3, 4] from rfl]
  refine env_one (i := 0) (d := 5) (k := .sat (nT 0 (some r) p1 l1)) (step_nload (by kernel_rfl) (Opd.of_base 3 rfl) rfl) (by kernel_rfl) (by decide) h ?_
  clear h
  intro a w h
  refine env_one (i := 1) (d := 6) (k := .val (.string s0)) (step_move (by kernel_rfl) (Opd.of_base 0 rfl) rfl) (by kernel_rfl) (by decide) h ?_
  clear h
  intro a w h
  refine env_one (i := 2) (d := 7) (k := .sat (sLP [s0])) (step_sslice1 (by kernel_rfl) (Opd.of_base 6 rfl) rfl) (by kernel_rfl) (by decide) h ?_
  clear h
  intro a w h
  refine env_one (i := 3) (d := 8) (k := .sat (nT nb (some r) ((Bl.refE p1 l1 (⟨#[100, 111, 109, 97, 105, 110, 95, 101, 114, 114, 111, 114]⟩) [s0]).1) ((Bl.refE p1 l1 (⟨#[100, 111, 109, 97, 105, 110, 95, 101, 114, 114, 111, 114]⟩) [s0]).2))) (step_rwith (g := 990) (Nat.le_of_ble_eq_true rfl) (by kernel_rfl) (Opd.ofT (Opd.of_base 5 rfl)) (Opd.const _) (Opd.of_base 7 rfl) (Opd.of_base 990 rfl) rfl) (by kernel_rfl) (by decide) h ?_
  clear h
  intro a w h
  refine env_store (i := 4) (x := 4) (y := 8) (r := r) [(0, .val (.string s0)), (3, .sat (nP 0 (some r) p1 l1)), (990, .sat (gP nb (some r))), (5, .sat (nT 0 (some r) p1 l1)), (6, .val (.string s0)), (8, .sat (nT nb (some r) ((Bl.refE p1 l1 (⟨#[100, 111, 109, 97, 105, 110, 95, 101, 114, 114, 111, 114]⟩) [s0]).1) ((Bl.refE p1 l1 (⟨#[100, 111, 109, 97, 105, 110, 95, 101, 114, 114, 111, 114]⟩) [s0]).2)))] (by kernel_rfl) rfl rfl hr (stays_cons 0 rfl (away_val _ _) (stays_cons 3 rfl (away_nP _ _ _ _) (stays_cons 990 rfl (away_gP _ _ _) (stays_cons 5 rfl (away_nT _ _ _ _) (stays_cons 6 rfl (away_val _ _) (stays_cons 8 rfl (away_nT _ _ _ _) (stays_nil _ _))))))) h ?_
  clear h
  intro a w h
  exact hQ a w (h.keep [990, 4])
set_option maxHeartbeats 1000000 in
theorem rDom_any (s0 : ByteArray) (p1 : Pay) (l1 : Fo) (A1 : Option Addr) (c1 : Nat) (B : Nat) (w : World) (hA1 : ArgsB w B A1 (Tm.len l1) l1) (hB : B ≤ w.heap.size)  : Calls Try.prog 24 #[Value.string s0, tv p1 A1 (Tm.len l1) c1] w (Makes (Bl.dom s0 p1 l1).1 (Bl.dom s0 p1 l1).2 w) := by
  refine calls_of_wp Try.func24 rDom_body ?_
  obtain ⟨v0, hv0⟩ : ∃ v : Value, v = Value.string s0 := ⟨_, rfl⟩
  obtain ⟨v1, hv1⟩ : ∃ v : Value, v = tv p1 A1 (Tm.len l1) c1 := ⟨_, rfl⟩
  rw [← hv0, ← hv1]
  have hk0 : (Kd.val (.string s0)).R v0 w := hv0
  have hk1 : (Kd.term p1 l1).R v1 w := by rw [hv1]; exact ⟨A1, c1, rfl, hA1.up hB⟩
  have hsN : (#[v0, v1] ++ Array.replicate (Try.f24.ntmps - #[v0, v1].size) undef : Array Value).size = 9 := by kernel_rfl
  have gs0 : (#[v0, v1] ++ Array.replicate (Try.f24.ntmps - #[v0, v1].size) undef : Array Value).getD 0 undef = v0 := by kernel_rfl
  have gs1 : (#[v0, v1] ++ Array.replicate (Try.f24.ntmps - #[v0, v1].size) undef : Array Value).getD 1 undef = v1 := by kernel_rfl
  generalize (#[v0, v1] ++ Array.replicate (Try.f24.ntmps - #[v0, v1].size) undef : Array Value) = tm at hsN gs0 gs1 ⊢
  obtain ⟨a, ha0⟩ : ∃ a : Act, a = ⟨tm, []⟩ := ⟨_, rfl⟩
  have h : Hold 9 [(0, .val (.string s0)), (1, .term p1 l1)] w ⟨tm, []⟩ w := ⟨hsN, rfl, Below.refl _ _, (slots_cons 0 (by rw [gs0]; exact hk0) (slots_cons 1 (by rw [gs1]; exact hk1) slots_nil))⟩
  obtain ⟨nb, hnb⟩ : ∃ nb, nb = w.heap.size := ⟨_, rfl⟩
  have hn : nb ≤ w.heap.size := by omega
  refine wp_seq ?_
  refine rDom0a_region s0 p1 l1 nb  hn h ?_
  intro r a w1 hr h
  show Code.wp _ _ _ a w1
  refine wp_seq ?_
  refine rDom1a_region s0 p1 l1 nb r  hr h ?_
  intro a w1 h
  show Code.wp _ _ _ a w1
  have ev : Bl.dom s0 p1 l1 = Bl.refE p1 l1 ⟨#[100, 111, 109, 97, 105, 110, 95, 101, 114, 114, 111, 114]⟩ [s0] := Bl.dom_ref s0 p1 l1
  rw [ev]
  refine wp_ret ?_
  (try simp only [then_ret, block_ret])
  exact law_cell rfl (h.get 4 rfl) h.defers fun A c ha => ⟨A, c, rfl, ha.mono fun b hb => ⟨by have := hb.1; omega, hb.2.1⟩, h.world⟩
section
variable {ops : Array Oper} {Q : Exit → Act → World → Prop} {E : Nat → Kd} {D : Nat → Nat} {base : Nat → Option Kd} {N : Nat}
theorem step_rDom {i : Nat} {n g : Nat} {G : Option Nat} {x0 x1 : Operand} {s0 : ByteArray} {p1 : Pay} {l1 : Fo} (hop : (ops[i]?).map (·.op) = some (.call { callee := .value (.func 24), args := #[x0, x1], argTypes := #[9, 24] })) (h0 : Opd ops E D base N i x0 (.val (.string s0))) (h1 : Opd ops E D base N i x1 (.term p1 l1)) (hg : Opd ops E D base N i (.tmp g) (.sat (gP n G))) (hE : E i = .sat (nT n G (Bl.dom s0 p1 l1).1 (Bl.dom s0 p1 l1).2)) : Step Try.prog ops Q E D base N i :=
  step_mk hop (fun _ _ => by kernel_rfl) hg (fun a w h => by
    have e0 : a.eval x0 = .string s0 := h0 a w h
    obtain ⟨A1, c1, e1, ha1⟩ := h1 a w h
    rw [show (#[x0, x1] : Array Operand).map a.eval = #[.string s0, tv p1 A1 (Tm.len l1) c1] by rw [← e0, ← e1]; simp]
    exact rDom_any s0 p1 l1 A1 c1 w.heap.size w ha1 (Nat.le_refl _)) hE
end
noncomputable def rExt0Ops : Array Oper := ((Try.f25.body).bind (findReg 0)).getD #[]
noncomputable def rExt1Ops : Array Oper := ((Try.f25.body).bind (findReg 1)).getD #[]
theorem rExt_body : Try.f25.body = some (.seq (.region 0 rExt0Ops false) (.seq (.region 1 rExt1Ops false) .ret)) := by kernel_rfl
theorem rExt0a_region {Q : Exit → Act → World → Prop} (s0 : ByteArray) (p1 : Pay) (l1 : Fo) (nb : Nat)  {w0 : World} {a : Act} {w : World} (hn : nb ≤ w0.heap.size) (h : Hold 9 [(0, .val (.string s0)), (1, .term p1 l1)] w0 a w)
    (hQ : ∀ r a' w', w0.heap.size ≤ r → Hold 9 [(0, .val (.string s0)), (3, .sat (nP 0 (some r) p1 l1)), (4, .sat (rC nb r zp .nil)), (990, .sat (gP nb (some r)))] w0 a' w' → Q .normal a' w') : (Code.region 0 rExt0Ops false).wp Try.prog Q a w := by
  refine region_seq (w0 := w) 2 (by kernel_rfl) ?_
  rw [show List.range 2 = [0, 1] from rfl]
  refine env_one (i := 0) (d := 3) (k := .ptrT p1 l1) (step_box (by kernel_rfl) (Opd.of_base 1 rfl) rfl) (by kernel_rfl) (by decide) h ?_
  clear h
  intro a w h
  refine env_res (i := 1) (d := 4) (n := nb) (fun r => [(0, .val (.string s0)), (1, .sat (nT 0 (some r) p1 l1)), (3, .sat (nP 0 (some r) p1 l1))]) (by kernel_rfl) (by decide) (by decide) hn (fun r => (goes_cons 0 rfl (turns_val _ _) (goes_cons 1 rfl (turns_term _ _ _) (goes_cons 3 rfl (turns_ptr _ _ _) (goes_nil _ _))))) h ?_
  clear h
  intro r a w hr h
  exact hQ r a w hr (h.keep [0, 3, 4, 990])
theorem rExt1a_region {Q : Exit → Act → World → Prop} (s0 : ByteArray) (p1 : Pay) (l1 : Fo) (nb r : Nat)  {w0 : World} {a : Act} {w : World} (hr : w0.heap.size ≤ r) (h : Hold 9 [(0, .val (.string s0)), (3, .sat (nP 0 (some r) p1 l1)), (4, .sat (rC nb r zp .nil)), (990, .sat (gP nb (some r)))] w0 a w)
    (hQ : ∀ a' w', Hold 9 [(990, .sat (gP nb (some r))), (4, .sat (rC nb r ((Bl.refE p1 l1 (⟨#[101, 120, 105, 115, 116, 101, 110, 99, 101, 95, 101, 114, 114, 111, 114]⟩) [s0]).1) ((Bl.refE p1 l1 (⟨#[101, 120, 105, 115, 116, 101, 110, 99, 101, 95, 101, 114, 114, 111, 114]⟩) [s0]).2)))] w0 a' w' → Q .normal a' w') : (Code.region 1 rExt1Ops false).wp Try.prog Q a w := by
  refine region_seq (w0 := w) 5 (by kernel_rfl) ?_
  rw [show List.range 5 = [0, 1, 2, 3, 4] from rfl]
  refine env_one (i := 0) (d := 5) (k := .sat (nT 0 (some r) p1 l1)) (step_nload (by kernel_rfl) (Opd.of_base 3 rfl) rfl) (by kernel_rfl) (by decide) h ?_
  clear h
  intro a w h
  refine env_one (i := 1) (d := 6) (k := .val (.string s0)) (step_move (by kernel_rfl) (Opd.of_base 0 rfl) rfl) (by kernel_rfl) (by decide) h ?_
  clear h
  intro a w h
  refine env_one (i := 2) (d := 7) (k := .sat (sLP [s0])) (step_sslice1 (by kernel_rfl) (Opd.of_base 6 rfl) rfl) (by kernel_rfl) (by decide) h ?_
  clear h
  intro a w h
  refine env_one (i := 3) (d := 8) (k := .sat (nT nb (some r) ((Bl.refE p1 l1 (⟨#[101, 120, 105, 115, 116, 101, 110, 99, 101, 95, 101, 114, 114, 111, 114]⟩) [s0]).1) ((Bl.refE p1 l1 (⟨#[101, 120, 105, 115, 116, 101, 110, 99, 101, 95, 101, 114, 114, 111, 114]⟩) [s0]).2))) (step_rwith (g := 990) (Nat.le_of_ble_eq_true rfl) (by kernel_rfl) (Opd.ofT (Opd.of_base 5 rfl)) (Opd.const _) (Opd.of_base 7 rfl) (Opd.of_base 990 rfl) rfl) (by kernel_rfl) (by decide) h ?_
  clear h
  intro a w h
  refine env_store (i := 4) (x := 4) (y := 8) (r := r) [(0, .val (.string s0)), (3, .sat (nP 0 (some r) p1 l1)), (990, .sat (gP nb (some r))), (5, .sat (nT 0 (some r) p1 l1)), (6, .val (.string s0)), (8, .sat (nT nb (some r) ((Bl.refE p1 l1 (⟨#[101, 120, 105, 115, 116, 101, 110, 99, 101, 95, 101, 114, 114, 111, 114]⟩) [s0]).1) ((Bl.refE p1 l1 (⟨#[101, 120, 105, 115, 116, 101, 110, 99, 101, 95, 101, 114, 114, 111, 114]⟩) [s0]).2)))] (by kernel_rfl) rfl rfl hr (stays_cons 0 rfl (away_val _ _) (stays_cons 3 rfl (away_nP _ _ _ _) (stays_cons 990 rfl (away_gP _ _ _) (stays_cons 5 rfl (away_nT _ _ _ _) (stays_cons 6 rfl (away_val _ _) (stays_cons 8 rfl (away_nT _ _ _ _) (stays_nil _ _))))))) h ?_
  clear h
  intro a w h
  exact hQ a w (h.keep [990, 4])
set_option maxHeartbeats 1000000 in
theorem rExt_any (s0 : ByteArray) (p1 : Pay) (l1 : Fo) (A1 : Option Addr) (c1 : Nat) (B : Nat) (w : World) (hA1 : ArgsB w B A1 (Tm.len l1) l1) (hB : B ≤ w.heap.size)  : Calls Try.prog 25 #[Value.string s0, tv p1 A1 (Tm.len l1) c1] w (Makes (Bl.ext s0 p1 l1).1 (Bl.ext s0 p1 l1).2 w) := by
  refine calls_of_wp Try.func25 rExt_body ?_
  obtain ⟨v0, hv0⟩ : ∃ v : Value, v = Value.string s0 := ⟨_, rfl⟩
  obtain ⟨v1, hv1⟩ : ∃ v : Value, v = tv p1 A1 (Tm.len l1) c1 := ⟨_, rfl⟩
  rw [← hv0, ← hv1]
  have hk0 : (Kd.val (.string s0)).R v0 w := hv0
  have hk1 : (Kd.term p1 l1).R v1 w := by rw [hv1]; exact ⟨A1, c1, rfl, hA1.up hB⟩
  have hsN : (#[v0, v1] ++ Array.replicate (Try.f25.ntmps - #[v0, v1].size) undef : Array Value).size = 9 := by kernel_rfl
  have gs0 : (#[v0, v1] ++ Array.replicate (Try.f25.ntmps - #[v0, v1].size) undef : Array Value).getD 0 undef = v0 := by kernel_rfl
  have gs1 : (#[v0, v1] ++ Array.replicate (Try.f25.ntmps - #[v0, v1].size) undef : Array Value).getD 1 undef = v1 := by kernel_rfl
  generalize (#[v0, v1] ++ Array.replicate (Try.f25.ntmps - #[v0, v1].size) undef : Array Value) = tm at hsN gs0 gs1 ⊢
  obtain ⟨a, ha0⟩ : ∃ a : Act, a = ⟨tm, []⟩ := ⟨_, rfl⟩
  have h : Hold 9 [(0, .val (.string s0)), (1, .term p1 l1)] w ⟨tm, []⟩ w := ⟨hsN, rfl, Below.refl _ _, (slots_cons 0 (by rw [gs0]; exact hk0) (slots_cons 1 (by rw [gs1]; exact hk1) slots_nil))⟩
  obtain ⟨nb, hnb⟩ : ∃ nb, nb = w.heap.size := ⟨_, rfl⟩
  have hn : nb ≤ w.heap.size := by omega
  refine wp_seq ?_
  refine rExt0a_region s0 p1 l1 nb  hn h ?_
  intro r a w1 hr h
  show Code.wp _ _ _ a w1
  refine wp_seq ?_
  refine rExt1a_region s0 p1 l1 nb r  hr h ?_
  intro a w1 h
  show Code.wp _ _ _ a w1
  have ev : Bl.ext s0 p1 l1 = Bl.refE p1 l1 ⟨#[101, 120, 105, 115, 116, 101, 110, 99, 101, 95, 101, 114, 114, 111, 114]⟩ [s0] := Bl.ext_ref s0 p1 l1
  rw [ev]
  refine wp_ret ?_
  (try simp only [then_ret, block_ret])
  exact law_cell rfl (h.get 4 rfl) h.defers fun A c ha => ⟨A, c, rfl, ha.mono fun b hb => ⟨by have := hb.1; omega, hb.2.1⟩, h.world⟩
section
variable {ops : Array Oper} {Q : Exit → Act → World → Prop} {E : Nat → Kd} {D : Nat → Nat} {base : Nat → Option Kd} {N : Nat}
theorem step_rExt {i : Nat} {n g : Nat} {G : Option Nat} {x0 x1 : Operand} {s0 : ByteArray} {p1 : Pay} {l1 : Fo} (hop : (ops[i]?).map (·.op) = some (.call { callee := .value (.func 25), args := #[x0, x1], argTypes := #[9, 24] })) (h0 : Opd ops E D base N i x0 (.val (.string s0))) (h1 : Opd ops E D base N i x1 (.term p1 l1)) (hg : Opd ops E D base N i (.tmp g) (.sat (gP n G))) (hE : E i = .sat (nT n G (Bl.ext s0 p1 l1).1 (Bl.ext s0 p1 l1).2)) : Step Try.prog ops Q E D base N i :=
  step_mk hop (fun _ _ => by kernel_rfl) hg (fun a w h => by
    have e0 : a.eval x0 = .string s0 := h0 a w h
    obtain ⟨A1, c1, e1, ha1⟩ := h1 a w h
    rw [show (#[x0, x1] : Array Operand).map a.eval = #[.string s0, tv p1 A1 (Tm.len l1) c1] by rw [← e0, ← e1]; simp]
    exact rExt_any s0 p1 l1 A1 c1 w.heap.size w ha1 (Nat.le_refl _)) hE
end
noncomputable def rPerm0Ops : Array Oper := ((Try.f26.body).bind (findReg 0)).getD #[]
noncomputable def rPerm1Ops : Array Oper := ((Try.f26.body).bind (findReg 1)).getD #[]
theorem rPerm_body : Try.f26.body = some (.seq (.region 0 rPerm0Ops false) (.seq (.region 1 rPerm1Ops false) .ret)) := by kernel_rfl
theorem rPerm0a_region {Q : Exit → Act → World → Prop} (s0 : ByteArray) (s1 : ByteArray) (p2 : Pay) (l2 : Fo) (nb : Nat)  {w0 : World} {a : Act} {w : World} (hn : nb ≤ w0.heap.size) (h : Hold 12 [(0, .val (.string s0)), (1, .val (.string s1)), (2, .term p2 l2)] w0 a w)
    (hQ : ∀ r a' w', w0.heap.size ≤ r → Hold 12 [(0, .val (.string s0)), (1, .val (.string s1)), (5, .sat (nP 0 (some r) p2 l2)), (6, .sat (rC nb r zp .nil)), (990, .sat (gP nb (some r)))] w0 a' w' → Q .normal a' w') : (Code.region 0 rPerm0Ops false).wp Try.prog Q a w := by
  refine region_seq (w0 := w) 2 (by kernel_rfl) ?_
  rw [show List.range 2 = [0, 1] from rfl]
  refine env_one (i := 0) (d := 5) (k := .ptrT p2 l2) (step_box (by kernel_rfl) (Opd.of_base 2 rfl) rfl) (by kernel_rfl) (by decide) h ?_
  clear h
  intro a w h
  refine env_res (i := 1) (d := 6) (n := nb) (fun r => [(0, .val (.string s0)), (1, .val (.string s1)), (2, .sat (nT 0 (some r) p2 l2)), (5, .sat (nP 0 (some r) p2 l2))]) (by kernel_rfl) (by decide) (by decide) hn (fun r => (goes_cons 0 rfl (turns_val _ _) (goes_cons 1 rfl (turns_val _ _) (goes_cons 2 rfl (turns_term _ _ _) (goes_cons 5 rfl (turns_ptr _ _ _) (goes_nil _ _)))))) h ?_
  clear h
  intro r a w hr h
  exact hQ r a w hr (h.keep [0, 1, 5, 6, 990])
theorem rPerm1a_region {Q : Exit → Act → World → Prop} (s0 : ByteArray) (s1 : ByteArray) (p2 : Pay) (l2 : Fo) (nb r : Nat)  {w0 : World} {a : Act} {w : World} (hr : w0.heap.size ≤ r) (h : Hold 12 [(0, .val (.string s0)), (1, .val (.string s1)), (5, .sat (nP 0 (some r) p2 l2)), (6, .sat (rC nb r zp .nil)), (990, .sat (gP nb (some r)))] w0 a w)
    (hQ : ∀ a' w', Hold 12 [(990, .sat (gP nb (some r))), (6, .sat (rC nb r ((Bl.refE p2 l2 (⟨#[112, 101, 114, 109, 105, 115, 115, 105, 111, 110, 95, 101, 114, 114, 111, 114]⟩) [s0, s1]).1) ((Bl.refE p2 l2 (⟨#[112, 101, 114, 109, 105, 115, 115, 105, 111, 110, 95, 101, 114, 114, 111, 114]⟩) [s0, s1]).2)))] w0 a' w' → Q .normal a' w') : (Code.region 1 rPerm1Ops false).wp Try.prog Q a w := by
  refine region_seq (w0 := w) 6 (by kernel_rfl) ?_
  rw [show List.range 6 = [0, 1, 2, 3, 4, 5] from rfl]
  refine env_one (i := 0) (d := 7) (k := .sat (nT 0 (some r) p2 l2)) (step_nload (by kernel_rfl) (Opd.of_base 5 rfl) rfl) (by kernel_rfl) (by decide) h ?_
  clear h
  intro a w h
  refine env_one (i := 1) (d := 8) (k := .val (.string s0)) (step_move (by kernel_rfl) (Opd.of_base 0 rfl) rfl) (by kernel_rfl) (by decide) h ?_
  clear h
  intro a w h
  refine env_one (i := 2) (d := 9) (k := .val (.string s1)) (step_move (by kernel_rfl) (Opd.of_base 1 rfl) rfl) (by kernel_rfl) (by decide) h ?_
  clear h
  intro a w h
  refine env_one (i := 3) (d := 10) (k := .sat (sLP [s0, s1])) (step_sslice2 (by kernel_rfl) (Opd.of_base 8 rfl) (Opd.of_base 9 rfl) rfl) (by kernel_rfl) (by decide) h ?_
  clear h
  intro a w h
  refine env_one (i := 4) (d := 11) (k := .sat (nT nb (some r) ((Bl.refE p2 l2 (⟨#[112, 101, 114, 109, 105, 115, 115, 105, 111, 110, 95, 101, 114, 114, 111, 114]⟩) [s0, s1]).1) ((Bl.refE p2 l2 (⟨#[112, 101, 114, 109, 105, 115, 115, 105, 111, 110, 95, 101, 114, 114, 111, 114]⟩) [s0, s1]).2))) (step_rwith (g := 990) (Nat.le_of_ble_eq_true rfl) (by kernel_rfl) (Opd.ofT (Opd.of_base 7 rfl)) (Opd.const _) (Opd.of_base 10 rfl) (Opd.of_base 990 rfl) rfl) (by kernel_rfl) (by decide) h ?_
  clear h
  intro a w h
  refine env_store (i := 5) (x := 6) (y := 11) (r := r) [(0, .val (.string s0)), (1, .val (.string s1)), (5, .sat (nP 0 (some r) p2 l2)), (990, .sat (gP nb (some r))), (7, .sat (nT 0 (some r) p2 l2)), (8, .val (.string s0)), (9, .val (.string s1)), (11, .sat (nT nb (some r) ((Bl.refE p2 l2 (⟨#[112, 101, 114, 109, 105, 115, 115, 105, 111, 110, 95, 101, 114, 114, 111, 114]⟩) [s0, s1]).1) ((Bl.refE p2 l2 (⟨#[112, 101, 114, 109, 105, 115, 115, 105, 111, 110, 95, 101, 114, 114, 111, 114]⟩) [s0, s1]).2)))] (by kernel_rfl) rfl rfl hr (stays_cons 0 rfl (away_val _ _) (stays_cons 1 rfl (away_val _ _) (stays_cons 5 rfl (away_nP _ _ _ _) (stays_cons 990 rfl (away_gP _ _ _) (stays_cons 7 rfl (away_nT _ _ _ _) (stays_cons 8 rfl (away_val _ _) (stays_cons 9 rfl (away_val _ _) (stays_cons 11 rfl (away_nT _ _ _ _) (stays_nil _ _))))))))) h ?_
  clear h
  intro a w h
  exact hQ a w (h.keep [990, 6])
set_option maxHeartbeats 1000000 in
theorem rPerm_any (s0 : ByteArray) (s1 : ByteArray) (p2 : Pay) (l2 : Fo) (A2 : Option Addr) (c2 : Nat) (B : Nat) (w : World) (hA2 : ArgsB w B A2 (Tm.len l2) l2) (hB : B ≤ w.heap.size)  : Calls Try.prog 26 #[Value.string s0, Value.string s1, tv p2 A2 (Tm.len l2) c2] w (Makes (Bl.perm s0 s1 p2 l2).1 (Bl.perm s0 s1 p2 l2).2 w) := by
  refine calls_of_wp Try.func26 rPerm_body ?_
  obtain ⟨v0, hv0⟩ : ∃ v : Value, v = Value.string s0 := ⟨_, rfl⟩
  obtain ⟨v1, hv1⟩ : ∃ v : Value, v = Value.string s1 := ⟨_, rfl⟩
  obtain ⟨v2, hv2⟩ : ∃ v : Value, v = tv p2 A2 (Tm.len l2) c2 := ⟨_, rfl⟩
  rw [← hv0, ← hv1, ← hv2]
  have hk0 : (Kd.val (.string s0)).R v0 w := hv0
  have hk1 : (Kd.val (.string s1)).R v1 w := hv1
  have hk2 : (Kd.term p2 l2).R v2 w := by rw [hv2]; exact ⟨A2, c2, rfl, hA2.up hB⟩
  have hsN : (#[v0, v1, v2] ++ Array.replicate (Try.f26.ntmps - #[v0, v1, v2].size) undef : Array Value).size = 12 := by kernel_rfl
  have gs0 : (#[v0, v1, v2] ++ Array.replicate (Try.f26.ntmps - #[v0, v1, v2].size) undef : Array Value).getD 0 undef = v0 := by kernel_rfl
  have gs1 : (#[v0, v1, v2] ++ Array.replicate (Try.f26.ntmps - #[v0, v1, v2].size) undef : Array Value).getD 1 undef = v1 := by kernel_rfl
  have gs2 : (#[v0, v1, v2] ++ Array.replicate (Try.f26.ntmps - #[v0, v1, v2].size) undef : Array Value).getD 2 undef = v2 := by kernel_rfl
  generalize (#[v0, v1, v2] ++ Array.replicate (Try.f26.ntmps - #[v0, v1, v2].size) undef : Array Value) = tm at hsN gs0 gs1 gs2 ⊢
  obtain ⟨a, ha0⟩ : ∃ a : Act, a = ⟨tm, []⟩ := ⟨_, rfl⟩
  have h : Hold 12 [(0, .val (.string s0)), (1, .val (.string s1)), (2, .term p2 l2)] w ⟨tm, []⟩ w := ⟨hsN, rfl, Below.refl _ _, (slots_cons 0 (by rw [gs0]; exact hk0) (slots_cons 1 (by rw [gs1]; exact hk1) (slots_cons 2 (by rw [gs2]; exact hk2) slots_nil)))⟩
  obtain ⟨nb, hnb⟩ : ∃ nb, nb = w.heap.size := ⟨_, rfl⟩
  have hn : nb ≤ w.heap.size := by omega
  refine wp_seq ?_
  refine rPerm0a_region s0 s1 p2 l2 nb  hn h ?_
  intro r a w1 hr h
  show Code.wp _ _ _ a w1
  refine wp_seq ?_
  refine rPerm1a_region s0 s1 p2 l2 nb r  hr h ?_
  intro a w1 h
  show Code.wp _ _ _ a w1
  have ev : Bl.perm s0 s1 p2 l2 = Bl.refE p2 l2 ⟨#[112, 101, 114, 109, 105, 115, 115, 105, 111, 110, 95, 101, 114, 114, 111, 114]⟩ [s0, s1] := Bl.perm_ref s0 s1 p2 l2
  rw [ev]
  refine wp_ret ?_
  (try simp only [then_ret, block_ret])
  exact law_cell rfl (h.get 6 rfl) h.defers fun A c ha => ⟨A, c, rfl, ha.mono fun b hb => ⟨by have := hb.1; omega, hb.2.1⟩, h.world⟩
section
variable {ops : Array Oper} {Q : Exit → Act → World → Prop} {E : Nat → Kd} {D : Nat → Nat} {base : Nat → Option Kd} {N : Nat}
theorem step_rPerm {i : Nat} {n g : Nat} {G : Option Nat} {x0 x1 x2 : Operand} {s0 : ByteArray} {s1 : ByteArray} {p2 : Pay} {l2 : Fo} (hop : (ops[i]?).map (·.op) = some (.call { callee := .value (.func 26), args := #[x0, x1, x2], argTypes := #[9, 9, 24] })) (h0 : Opd ops E D base N i x0 (.val (.string s0))) (h1 : Opd ops E D base N i x1 (.val (.string s1))) (h2 : Opd ops E D base N i x2 (.term p2 l2)) (hg : Opd ops E D base N i (.tmp g) (.sat (gP n G))) (hE : E i = .sat (nT n G (Bl.perm s0 s1 p2 l2).1 (Bl.perm s0 s1 p2 l2).2)) : Step Try.prog ops Q E D base N i :=
  step_mk hop (fun _ _ => by kernel_rfl) hg (fun a w h => by
    have e0 : a.eval x0 = .string s0 := h0 a w h
    have e1 : a.eval x1 = .string s1 := h1 a w h
    obtain ⟨A2, c2, e2, ha2⟩ := h2 a w h
    rw [show (#[x0, x1, x2] : Array Operand).map a.eval = #[.string s0, .string s1, tv p2 A2 (Tm.len l2) c2] by rw [← e0, ← e1, ← e2]; simp]
    exact rPerm_any s0 s1 p2 l2 A2 c2 w.heap.size w ha2 (Nat.le_refl _)) hE
end
noncomputable def rRep0Ops : Array Oper := ((Try.f27.body).bind (findReg 0)).getD #[]
noncomputable def rRep1Ops : Array Oper := ((Try.f27.body).bind (findReg 1)).getD #[]
theorem rRep_body : Try.f27.body = some (.seq (.region 0 rRep0Ops false) (.seq (.region 1 rRep1Ops false) .ret)) := by kernel_rfl
theorem rRep0a_region {Q : Exit → Act → World → Prop} (s0 : ByteArray) (nb : Nat)  {w0 : World} {a : Act} {w : World} (hn : nb ≤ w0.heap.size) (h : Hold 8 [(0, .val (.string s0))] w0 a w)
    (hQ : ∀ r a' w', w0.heap.size ≤ r → Hold 8 [(0, .val (.string s0)), (2, .sat (rC nb r zp .nil)), (990, .sat (gP nb (some r)))] w0 a' w' → Q .normal a' w') : (Code.region 0 rRep0Ops false).wp Try.prog Q a w := by
  refine region_seq (w0 := w) 1 (by kernel_rfl) ?_
  rw [show List.range 1 = [0] from rfl]
  refine env_res (i := 0) (d := 2) (n := nb) (fun r => [(0, .val (.string s0))]) (by kernel_rfl) (by decide) (by decide) hn (fun r => (goes_cons 0 rfl (turns_val _ _) (goes_nil _ _))) h ?_
  clear h
  intro r a w hr h
  exact hQ r a w hr (h.keep [0, 2, 990])
theorem rRep1a_region {Q : Exit → Act → World → Prop} (s0 : ByteArray) (nb r : Nat)  {w0 : World} {a : Act} {w : World} (hr : w0.heap.size ≤ r) (h : Hold 8 [(0, .val (.string s0)), (2, .sat (rC nb r zp .nil)), (990, .sat (gP nb (some r)))] w0 a w)
    (hQ : ∀ a' w', Hold 8 [(990, .sat (gP nb (some r))), (2, .sat (rC nb r ((Bl.ballE (3, 0, ⟨#[114, 101, 112, 114, 101, 115, 101, 110, 116, 97, 116, 105, 111, 110, 95, 101, 114, 114, 111, 114]⟩) (.node (2, 0, s0) .nil .nil)).1) ((Bl.ballE (3, 0, ⟨#[114, 101, 112, 114, 101, 115, 101, 110, 116, 97, 116, 105, 111, 110, 95, 101, 114, 114, 111, 114]⟩) (.node (2, 0, s0) .nil .nil)).2)))] w0 a' w' → Q .normal a' w') : (Code.region 1 rRep1Ops false).wp Try.prog Q a w := by
  refine region_seq (w0 := w) 6 (by kernel_rfl) ?_
  rw [show List.range 6 = [0, 1, 2, 3, 4, 5] from rfl]
  refine env_one (i := 0) (d := 3) (k := .val (.string s0)) (step_move (by kernel_rfl) (Opd.of_base 0 rfl) rfl) (by kernel_rfl) (by decide) h ?_
  clear h
  intro a w h
  refine env_one (i := 1) (d := 4) (k := .sat (nT nb (some r) (2, 0, s0) .nil)) (step_rat6 (g := 990) (by kernel_rfl) (Opd.of_base 3 rfl) (Opd.of_base 990 rfl) rfl) (by kernel_rfl) (by decide) h ?_
  clear h
  intro a w h
  refine env_one (i := 2) (d := 5) (k := .sat (nK nb (some r) (.node (2, 0, s0) .nil .nil))) (step_nslice1 (g := 990) (by kernel_rfl) (Opd.of_base 4 rfl) (Opd.of_base 990 rfl) rfl) (by kernel_rfl) (by decide) h ?_
  clear h
  intro a w h
  refine env_one (i := 3) (d := 6) (k := .sat (nT nb (some r) (3, 0, ⟨#[114, 101, 112, 114, 101, 115, 101, 110, 116, 97, 116, 105, 111, 110, 95, 101, 114, 114, 111, 114]⟩) (.node (2, 0, s0) .nil .nil))) (step_rstr (by kernel_rfl) (Opd.const _) (Opd.ofK (Opd.of_base 5 rfl)) rfl) (by kernel_rfl) (by decide) h ?_
  clear h
  intro a w h
  refine env_one (i := 4) (d := 7) (k := .sat (nT nb (some r) ((Bl.ballE (3, 0, ⟨#[114, 101, 112, 114, 101, 115, 101, 110, 116, 97, 116, 105, 111, 110, 95, 101, 114, 114, 111, 114]⟩) (.node (2, 0, s0) .nil .nil)).1) ((Bl.ballE (3, 0, ⟨#[114, 101, 112, 114, 101, 115, 101, 110, 116, 97, 116, 105, 111, 110, 95, 101, 114, 114, 111, 114]⟩) (.node (2, 0, s0) .nil .nil)).2))) (step_rball (g := 990) (by kernel_rfl) (Opd.ofT (Opd.of_base 6 rfl)) (Opd.of_base 990 rfl) rfl) (by kernel_rfl) (by decide) h ?_
  clear h
  intro a w h
  refine env_store (i := 5) (x := 2) (y := 7) (r := r) [(0, .val (.string s0)), (990, .sat (gP nb (some r))), (3, .val (.string s0)), (4, .sat (nT nb (some r) (2, 0, s0) .nil)), (5, .sat (nK nb (some r) (.node (2, 0, s0) .nil .nil))), (6, .sat (nT nb (some r) (3, 0, ⟨#[114, 101, 112, 114, 101, 115, 101, 110, 116, 97, 116, 105, 111, 110, 95, 101, 114, 114, 111, 114]⟩) (.node (2, 0, s0) .nil .nil))), (7, .sat (nT nb (some r) ((Bl.ballE (3, 0, ⟨#[114, 101, 112, 114, 101, 115, 101, 110, 116, 97, 116, 105, 111, 110, 95, 101, 114, 114, 111, 114]⟩) (.node (2, 0, s0) .nil .nil)).1) ((Bl.ballE (3, 0, ⟨#[114, 101, 112, 114, 101, 115, 101, 110, 116, 97, 116, 105, 111, 110, 95, 101, 114, 114, 111, 114]⟩) (.node (2, 0, s0) .nil .nil)).2)))] (by kernel_rfl) rfl rfl hr (stays_cons 0 rfl (away_val _ _) (stays_cons 990 rfl (away_gP _ _ _) (stays_cons 3 rfl (away_val _ _) (stays_cons 4 rfl (away_nT _ _ _ _) (stays_cons 5 rfl (away_nK _ _ _) (stays_cons 6 rfl (away_nT _ _ _ _) (stays_cons 7 rfl (away_nT _ _ _ _) (stays_nil _ _)))))))) h ?_
  clear h
  intro a w h
  exact hQ a w (h.keep [990, 2])
set_option maxHeartbeats 1000000 in
theorem rRep_any (s0 : ByteArray) (w : World)   : Calls Try.prog 27 #[Value.string s0] w (Makes (Bl.rep s0).1 (Bl.rep s0).2 w) := by
  refine calls_of_wp Try.func27 rRep_body ?_
  obtain ⟨v0, hv0⟩ : ∃ v : Value, v = Value.string s0 := ⟨_, rfl⟩
  rw [← hv0]
  have hk0 : (Kd.val (.string s0)).R v0 w := hv0
  have hsN : (#[v0] ++ Array.replicate (Try.f27.ntmps - #[v0].size) undef : Array Value).size = 8 := by kernel_rfl
  have gs0 : (#[v0] ++ Array.replicate (Try.f27.ntmps - #[v0].size) undef : Array Value).getD 0 undef = v0 := by kernel_rfl
  generalize (#[v0] ++ Array.replicate (Try.f27.ntmps - #[v0].size) undef : Array Value) = tm at hsN gs0 ⊢
  obtain ⟨a, ha0⟩ : ∃ a : Act, a = ⟨tm, []⟩ := ⟨_, rfl⟩
  have h : Hold 8 [(0, .val (.string s0))] w ⟨tm, []⟩ w := ⟨hsN, rfl, Below.refl _ _, (slots_cons 0 (by rw [gs0]; exact hk0) slots_nil)⟩
  obtain ⟨nb, hnb⟩ : ∃ nb, nb = w.heap.size := ⟨_, rfl⟩
  have hn : nb ≤ w.heap.size := by omega
  refine wp_seq ?_
  refine rRep0a_region s0 nb  hn h ?_
  intro r a w1 hr h
  show Code.wp _ _ _ a w1
  refine wp_seq ?_
  refine rRep1a_region s0 nb r  hr h ?_
  intro a w1 h
  show Code.wp _ _ _ a w1
  have ev : Bl.rep s0 = Bl.ballE (3, 0, ⟨#[114, 101, 112, 114, 101, 115, 101, 110, 116, 97, 116, 105, 111, 110, 95, 101, 114, 114, 111, 114]⟩) (.node (2, 0, s0) .nil .nil) := Bl.rep_is s0
  rw [ev]
  refine wp_ret ?_
  (try simp only [then_ret, block_ret])
  exact law_cell rfl (h.get 2 rfl) h.defers fun A c ha => ⟨A, c, rfl, ha.mono fun b hb => ⟨by have := hb.1; omega, hb.2.1⟩, h.world⟩
section
variable {ops : Array Oper} {Q : Exit → Act → World → Prop} {E : Nat → Kd} {D : Nat → Nat} {base : Nat → Option Kd} {N : Nat}
theorem step_rRep {i : Nat} {n g : Nat} {G : Option Nat} {x0 : Operand} {s0 : ByteArray} (hop : (ops[i]?).map (·.op) = some (.call { callee := .value (.func 27), args := #[x0], argTypes := #[9] })) (h0 : Opd ops E D base N i x0 (.val (.string s0))) (hg : Opd ops E D base N i (.tmp g) (.sat (gP n G))) (hE : E i = .sat (nT n G (Bl.rep s0).1 (Bl.rep s0).2)) : Step Try.prog ops Q E D base N i :=
  step_mk hop (fun _ _ => by kernel_rfl) hg (fun a w h => by
    have e0 : a.eval x0 = .string s0 := h0 a w h
    rw [show (#[x0] : Array Operand).map a.eval = #[.string s0] by rw [← e0]; simp]
    exact rRep_any s0 w ) hE
end
noncomputable def rEv0Ops : Array Oper := ((Try.f28.body).bind (findReg 0)).getD #[]
noncomputable def rEv1Ops : Array Oper := ((Try.f28.body).bind (findReg 1)).getD #[]
theorem rEv_body : Try.f28.body = some (.seq (.region 0 rEv0Ops false) (.seq (.region 1 rEv1Ops false) .ret)) := by kernel_rfl
theorem rEv0a_region {Q : Exit → Act → World → Prop} (s0 : ByteArray) (nb : Nat)  {w0 : World} {a : Act} {w : World} (hn : nb ≤ w0.heap.size) (h : Hold 8 [(0, .val (.string s0))] w0 a w)
    (hQ : ∀ r a' w', w0.heap.size ≤ r → Hold 8 [(0, .val (.string s0)), (2, .sat (rC nb r zp .nil)), (990, .sat (gP nb (some r)))] w0 a' w' → Q .normal a' w') : (Code.region 0 rEv0Ops false).wp Try.prog Q a w := by
  refine region_seq (w0 := w) 1 (by kernel_rfl) ?_
  rw [show List.range 1 = [0] from rfl]
  refine env_res (i := 0) (d := 2) (n := nb) (fun r => [(0, .val (.string s0))]) (by kernel_rfl) (by decide) (by decide) hn (fun r => (goes_cons 0 rfl (turns_val _ _) (goes_nil _ _))) h ?_
  clear h
  intro r a w hr h
  exact hQ r a w hr (h.keep [0, 2, 990])
theorem rEv1a_region {Q : Exit → Act → World → Prop} (s0 : ByteArray) (nb r : Nat)  {w0 : World} {a : Act} {w : World} (hr : w0.heap.size ≤ r) (h : Hold 8 [(0, .val (.string s0)), (2, .sat (rC nb r zp .nil)), (990, .sat (gP nb (some r)))] w0 a w)
    (hQ : ∀ a' w', Hold 8 [(990, .sat (gP nb (some r))), (2, .sat (rC nb r ((Bl.ballE (3, 0, ⟨#[101, 118, 97, 108, 117, 97, 116, 105, 111, 110, 95, 101, 114, 114, 111, 114]⟩) (.node (2, 0, s0) .nil .nil)).1) ((Bl.ballE (3, 0, ⟨#[101, 118, 97, 108, 117, 97, 116, 105, 111, 110, 95, 101, 114, 114, 111, 114]⟩) (.node (2, 0, s0) .nil .nil)).2)))] w0 a' w' → Q .normal a' w') : (Code.region 1 rEv1Ops false).wp Try.prog Q a w := by
  refine region_seq (w0 := w) 6 (by kernel_rfl) ?_
  rw [show List.range 6 = [0, 1, 2, 3, 4, 5] from rfl]
  refine env_one (i := 0) (d := 3) (k := .val (.string s0)) (step_move (by kernel_rfl) (Opd.of_base 0 rfl) rfl) (by kernel_rfl) (by decide) h ?_
  clear h
  intro a w h
  refine env_one (i := 1) (d := 4) (k := .sat (nT nb (some r) (2, 0, s0) .nil)) (step_rat6 (g := 990) (by kernel_rfl) (Opd.of_base 3 rfl) (Opd.of_base 990 rfl) rfl) (by kernel_rfl) (by decide) h ?_
  clear h
  intro a w h
  refine env_one (i := 2) (d := 5) (k := .sat (nK nb (some r) (.node (2, 0, s0) .nil .nil))) (step_nslice1 (g := 990) (by kernel_rfl) (Opd.of_base 4 rfl) (Opd.of_base 990 rfl) rfl) (by kernel_rfl) (by decide) h ?_
  clear h
  intro a w h
  refine env_one (i := 3) (d := 6) (k := .sat (nT nb (some r) (3, 0, ⟨#[101, 118, 97, 108, 117, 97, 116, 105, 111, 110, 95, 101, 114, 114, 111, 114]⟩) (.node (2, 0, s0) .nil .nil))) (step_rstr (by kernel_rfl) (Opd.const _) (Opd.ofK (Opd.of_base 5 rfl)) rfl) (by kernel_rfl) (by decide) h ?_
  clear h
  intro a w h
  refine env_one (i := 4) (d := 7) (k := .sat (nT nb (some r) ((Bl.ballE (3, 0, ⟨#[101, 118, 97, 108, 117, 97, 116, 105, 111, 110, 95, 101, 114, 114, 111, 114]⟩) (.node (2, 0, s0) .nil .nil)).1) ((Bl.ballE (3, 0, ⟨#[101, 118, 97, 108, 117, 97, 116, 105, 111, 110, 95, 101, 114, 114, 111, 114]⟩) (.node (2, 0, s0) .nil .nil)).2))) (step_rball (g := 990) (by kernel_rfl) (Opd.ofT (Opd.of_base 6 rfl)) (Opd.of_base 990 rfl) rfl) (by kernel_rfl) (by decide) h ?_
  clear h
  intro a w h
  refine env_store (i := 5) (x := 2) (y := 7) (r := r) [(0, .val (.string s0)), (990, .sat (gP nb (some r))), (3, .val (.string s0)), (4, .sat (nT nb (some r) (2, 0, s0) .nil)), (5, .sat (nK nb (some r) (.node (2, 0, s0) .nil .nil))), (6, .sat (nT nb (some r) (3, 0, ⟨#[101, 118, 97, 108, 117, 97, 116, 105, 111, 110, 95, 101, 114, 114, 111, 114]⟩) (.node (2, 0, s0) .nil .nil))), (7, .sat (nT nb (some r) ((Bl.ballE (3, 0, ⟨#[101, 118, 97, 108, 117, 97, 116, 105, 111, 110, 95, 101, 114, 114, 111, 114]⟩) (.node (2, 0, s0) .nil .nil)).1) ((Bl.ballE (3, 0, ⟨#[101, 118, 97, 108, 117, 97, 116, 105, 111, 110, 95, 101, 114, 114, 111, 114]⟩) (.node (2, 0, s0) .nil .nil)).2)))] (by kernel_rfl) rfl rfl hr (stays_cons 0 rfl (away_val _ _) (stays_cons 990 rfl (away_gP _ _ _) (stays_cons 3 rfl (away_val _ _) (stays_cons 4 rfl (away_nT _ _ _ _) (stays_cons 5 rfl (away_nK _ _ _) (stays_cons 6 rfl (away_nT _ _ _ _) (stays_cons 7 rfl (away_nT _ _ _ _) (stays_nil _ _)))))))) h ?_
  clear h
  intro a w h
  exact hQ a w (h.keep [990, 2])
set_option maxHeartbeats 1000000 in
theorem rEv_any (s0 : ByteArray) (w : World)   : Calls Try.prog 28 #[Value.string s0] w (Makes (Bl.ev s0).1 (Bl.ev s0).2 w) := by
  refine calls_of_wp Try.func28 rEv_body ?_
  obtain ⟨v0, hv0⟩ : ∃ v : Value, v = Value.string s0 := ⟨_, rfl⟩
  rw [← hv0]
  have hk0 : (Kd.val (.string s0)).R v0 w := hv0
  have hsN : (#[v0] ++ Array.replicate (Try.f28.ntmps - #[v0].size) undef : Array Value).size = 8 := by kernel_rfl
  have gs0 : (#[v0] ++ Array.replicate (Try.f28.ntmps - #[v0].size) undef : Array Value).getD 0 undef = v0 := by kernel_rfl
  generalize (#[v0] ++ Array.replicate (Try.f28.ntmps - #[v0].size) undef : Array Value) = tm at hsN gs0 ⊢
  obtain ⟨a, ha0⟩ : ∃ a : Act, a = ⟨tm, []⟩ := ⟨_, rfl⟩
  have h : Hold 8 [(0, .val (.string s0))] w ⟨tm, []⟩ w := ⟨hsN, rfl, Below.refl _ _, (slots_cons 0 (by rw [gs0]; exact hk0) slots_nil)⟩
  obtain ⟨nb, hnb⟩ : ∃ nb, nb = w.heap.size := ⟨_, rfl⟩
  have hn : nb ≤ w.heap.size := by omega
  refine wp_seq ?_
  refine rEv0a_region s0 nb  hn h ?_
  intro r a w1 hr h
  show Code.wp _ _ _ a w1
  refine wp_seq ?_
  refine rEv1a_region s0 nb r  hr h ?_
  intro a w1 h
  show Code.wp _ _ _ a w1
  have ev : Bl.ev s0 = Bl.ballE (3, 0, ⟨#[101, 118, 97, 108, 117, 97, 116, 105, 111, 110, 95, 101, 114, 114, 111, 114]⟩) (.node (2, 0, s0) .nil .nil) := Bl.ev_is s0
  rw [ev]
  refine wp_ret ?_
  (try simp only [then_ret, block_ret])
  exact law_cell rfl (h.get 2 rfl) h.defers fun A c ha => ⟨A, c, rfl, ha.mono fun b hb => ⟨by have := hb.1; omega, hb.2.1⟩, h.world⟩
section
variable {ops : Array Oper} {Q : Exit → Act → World → Prop} {E : Nat → Kd} {D : Nat → Nat} {base : Nat → Option Kd} {N : Nat}
theorem step_rEv {i : Nat} {n g : Nat} {G : Option Nat} {x0 : Operand} {s0 : ByteArray} (hop : (ops[i]?).map (·.op) = some (.call { callee := .value (.func 28), args := #[x0], argTypes := #[9] })) (h0 : Opd ops E D base N i x0 (.val (.string s0))) (hg : Opd ops E D base N i (.tmp g) (.sat (gP n G))) (hE : E i = .sat (nT n G (Bl.ev s0).1 (Bl.ev s0).2)) : Step Try.prog ops Q E D base N i :=
  step_mk hop (fun _ _ => by kernel_rfl) hg (fun a w h => by
    have e0 : a.eval x0 = .string s0 := h0 a w h
    rw [show (#[x0] : Array Operand).map a.eval = #[.string s0] by rw [← e0]; simp]
    exact rEv_any s0 w ) hE
end
noncomputable def rSyn0Ops : Array Oper := ((Try.f29.body).bind (findReg 0)).getD #[]
noncomputable def rSyn1Ops : Array Oper := ((Try.f29.body).bind (findReg 1)).getD #[]
noncomputable def rSyn2Ops : Array Oper := ((Try.f29.body).bind (findReg 2)).getD #[]
noncomputable def rSyn3Ops : Array Oper := ((Try.f29.body).bind (findReg 3)).getD #[]
theorem rSyn_body : Try.f29.body = some (.seq (.region 0 rSyn0Ops false) (.seq (.seq (.region 1 rSyn1Ops false) (.cond (.tmp 4) (.seq (.region 2 rSyn2Ops false) .ret) .skip)) (.seq (.region 3 rSyn3Ops false) .ret))) := by kernel_rfl
theorem rSyn0a_region {Q : Exit → Act → World → Prop} (s0 : Int) (nb : Nat)  {w0 : World} {a : Act} {w : World} (hn : nb ≤ w0.heap.size) (h : Hold 11 [(0, .val (.int .i64 s0))] w0 a w)
    (hQ : ∀ r a' w', w0.heap.size ≤ r → Hold 11 [(0, .val (.int .i64 s0)), (2, .sat (rC nb r zp .nil)), (990, .sat (gP nb (some r)))] w0 a' w' → Q .normal a' w') : (Code.region 0 rSyn0Ops false).wp Try.prog Q a w := by
  refine region_seq (w0 := w) 1 (by kernel_rfl) ?_
  rw [show List.range 1 = [0] from rfl]
  refine env_res (i := 0) (d := 2) (n := nb) (fun r => [(0, .val (.int .i64 s0))]) (by kernel_rfl) (by decide) (by decide) hn (fun r => (goes_cons 0 rfl (turns_val _ _) (goes_nil _ _))) h ?_
  clear h
  intro r a w hr h
  exact hQ r a w hr (h.keep [0, 2, 990])
theorem rSyn1a_region {Q : Exit → Act → World → Prop} (s0 : Int) (nb r : Nat) (hz : s0 < 0) {w0 : World} {a : Act} {w : World} (hr : w0.heap.size ≤ r) (h : Hold 11 [(0, .val (.int .i64 s0)), (2, .sat (rC nb r zp .nil)), (990, .sat (gP nb (some r)))] w0 a w)
    (hQ : ∀ a' w', Hold 11 [(0, .val (.int .i64 s0)), (2, .sat (rC nb r zp .nil)), (990, .sat (gP nb (some r))), (4, .val (.bool true))] w0 a' w' → Q .normal a' w') : (Code.region 1 rSyn1Ops false).wp Try.prog Q a w := by
  refine region_seq (w0 := w) 2 (by kernel_rfl) ?_
  rw [show List.range 2 = [0, 1] from rfl]
  refine env_one (i := 0) (d := 3) (k := .val (.int .i64 s0)) (step_move (by kernel_rfl) (Opd.of_base 0 rfl) rfl) (by kernel_rfl) (by decide) h ?_
  clear h
  intro a w h
  refine env_one (i := 1) (d := 4) (k := .val (.bool true)) (step_lt_int (m := s0) (n := 0) (by kernel_rfl) (Opd.of_base 3 rfl) (Opd.const _) (decide_eq_true hz) rfl) (by kernel_rfl) (by decide) h ?_
  clear h
  intro a w h
  exact hQ a w (h.keep [0, 2, 990, 4])
theorem rSyn2a_region {Q : Exit → Act → World → Prop} (s0 : Int) (nb r : Nat)  {w0 : World} {a : Act} {w : World} (hr : w0.heap.size ≤ r) (h : Hold 11 [(0, .val (.int .i64 s0)), (2, .sat (rC nb r zp .nil)), (990, .sat (gP nb (some r)))] w0 a w)
    (hQ : ∀ a' w', Hold 11 [(0, .val (.int .i64 s0)), (990, .sat (gP nb (some r))), (2, .sat (rC nb r zp .nil))] w0 a' w' → Q .normal a' w') : (Code.region 2 rSyn2Ops false).wp Try.prog Q a w := by
  refine region_seq (w0 := w) 2 (by kernel_rfl) ?_
  rw [show List.range 2 = [0, 1] from rfl]
  refine env_one (i := 0) (d := 5) (k := .sat (nT nb (some r) zp .nil)) (step_nzero (by kernel_rfl) rfl) (by kernel_rfl) (by decide) h ?_
  clear h
  intro a w h
  refine env_store (i := 1) (x := 2) (y := 5) (r := r) [(0, .val (.int .i64 s0)), (990, .sat (gP nb (some r))), (5, .sat (nT nb (some r) zp .nil))] (by kernel_rfl) rfl rfl hr (stays_cons 0 rfl (away_val _ _) (stays_cons 990 rfl (away_gP _ _ _) (stays_cons 5 rfl (away_nT _ _ _ _) (stays_nil _ _)))) h ?_
  clear h
  intro a w h
  exact hQ a w (h.keep [0, 990, 2])
theorem rSyn1b_region {Q : Exit → Act → World → Prop} (s0 : Int) (nb r : Nat) (hz : ¬ s0 < 0) {w0 : World} {a : Act} {w : World} (hr : w0.heap.size ≤ r) (h : Hold 11 [(0, .val (.int .i64 s0)), (2, .sat (rC nb r zp .nil)), (990, .sat (gP nb (some r)))] w0 a w)
    (hQ : ∀ a' w', Hold 11 [(0, .val (.int .i64 s0)), (2, .sat (rC nb r zp .nil)), (990, .sat (gP nb (some r))), (4, .val (.bool false))] w0 a' w' → Q .normal a' w') : (Code.region 1 rSyn1Ops false).wp Try.prog Q a w := by
  refine region_seq (w0 := w) 2 (by kernel_rfl) ?_
  rw [show List.range 2 = [0, 1] from rfl]
  refine env_one (i := 0) (d := 3) (k := .val (.int .i64 s0)) (step_move (by kernel_rfl) (Opd.of_base 0 rfl) rfl) (by kernel_rfl) (by decide) h ?_
  clear h
  intro a w h
  refine env_one (i := 1) (d := 4) (k := .val (.bool false)) (step_lt_int (m := s0) (n := 0) (by kernel_rfl) (Opd.of_base 3 rfl) (Opd.const _) (decide_eq_false hz) rfl) (by kernel_rfl) (by decide) h ?_
  clear h
  intro a w h
  exact hQ a w (h.keep [0, 2, 990, 4])
theorem rSyn3a_region {Q : Exit → Act → World → Prop} (s0 : Int) (nb r : Nat)  {w0 : World} {a : Act} {w : World} (hr : w0.heap.size ≤ r) (h : Hold 11 [(0, .val (.int .i64 s0)), (2, .sat (rC nb r zp .nil)), (990, .sat (gP nb (some r)))] w0 a w)
    (hQ : ∀ a' w', Hold 11 [(990, .sat (gP nb (some r))), (2, .sat (rC nb r ((Bl.ballE (3, 0, ⟨#[115, 121, 110, 116, 97, 120, 95, 101, 114, 114, 111, 114]⟩) (.node (1, s0, ByteArray.empty) .nil .nil)).1) ((Bl.ballE (3, 0, ⟨#[115, 121, 110, 116, 97, 120, 95, 101, 114, 114, 111, 114]⟩) (.node (1, s0, ByteArray.empty) .nil .nil)).2)))] w0 a' w' → Q .normal a' w') : (Code.region 3 rSyn3Ops false).wp Try.prog Q a w := by
  refine region_seq (w0 := w) 6 (by kernel_rfl) ?_
  rw [show List.range 6 = [0, 1, 2, 3, 4, 5] from rfl]
  refine env_one (i := 0) (d := 6) (k := .val (.int .i64 s0)) (step_move (by kernel_rfl) (Opd.of_base 0 rfl) rfl) (by kernel_rfl) (by decide) h ?_
  clear h
  intro a w h
  refine env_one (i := 1) (d := 7) (k := .sat (nT nb (some r) (1, s0, ByteArray.empty) .nil)) (step_rnum6 (g := 990) (by kernel_rfl) (Opd.of_base 6 rfl) (Opd.of_base 990 rfl) rfl) (by kernel_rfl) (by decide) h ?_
  clear h
  intro a w h
  refine env_one (i := 2) (d := 8) (k := .sat (nK nb (some r) (.node (1, s0, ByteArray.empty) .nil .nil))) (step_nslice1 (g := 990) (by kernel_rfl) (Opd.of_base 7 rfl) (Opd.of_base 990 rfl) rfl) (by kernel_rfl) (by decide) h ?_
  clear h
  intro a w h
  refine env_one (i := 3) (d := 9) (k := .sat (nT nb (some r) (3, 0, ⟨#[115, 121, 110, 116, 97, 120, 95, 101, 114, 114, 111, 114]⟩) (.node (1, s0, ByteArray.empty) .nil .nil))) (step_rstr (by kernel_rfl) (Opd.const _) (Opd.ofK (Opd.of_base 8 rfl)) rfl) (by kernel_rfl) (by decide) h ?_
  clear h
  intro a w h
  refine env_one (i := 4) (d := 10) (k := .sat (nT nb (some r) ((Bl.ballE (3, 0, ⟨#[115, 121, 110, 116, 97, 120, 95, 101, 114, 114, 111, 114]⟩) (.node (1, s0, ByteArray.empty) .nil .nil)).1) ((Bl.ballE (3, 0, ⟨#[115, 121, 110, 116, 97, 120, 95, 101, 114, 114, 111, 114]⟩) (.node (1, s0, ByteArray.empty) .nil .nil)).2))) (step_rball (g := 990) (by kernel_rfl) (Opd.ofT (Opd.of_base 9 rfl)) (Opd.of_base 990 rfl) rfl) (by kernel_rfl) (by decide) h ?_
  clear h
  intro a w h
  refine env_store (i := 5) (x := 2) (y := 10) (r := r) [(0, .val (.int .i64 s0)), (990, .sat (gP nb (some r))), (6, .val (.int .i64 s0)), (7, .sat (nT nb (some r) (1, s0, ByteArray.empty) .nil)), (8, .sat (nK nb (some r) (.node (1, s0, ByteArray.empty) .nil .nil))), (9, .sat (nT nb (some r) (3, 0, ⟨#[115, 121, 110, 116, 97, 120, 95, 101, 114, 114, 111, 114]⟩) (.node (1, s0, ByteArray.empty) .nil .nil))), (10, .sat (nT nb (some r) ((Bl.ballE (3, 0, ⟨#[115, 121, 110, 116, 97, 120, 95, 101, 114, 114, 111, 114]⟩) (.node (1, s0, ByteArray.empty) .nil .nil)).1) ((Bl.ballE (3, 0, ⟨#[115, 121, 110, 116, 97, 120, 95, 101, 114, 114, 111, 114]⟩) (.node (1, s0, ByteArray.empty) .nil .nil)).2)))] (by kernel_rfl) rfl rfl hr (stays_cons 0 rfl (away_val _ _) (stays_cons 990 rfl (away_gP _ _ _) (stays_cons 6 rfl (away_val _ _) (stays_cons 7 rfl (away_nT _ _ _ _) (stays_cons 8 rfl (away_nK _ _ _) (stays_cons 9 rfl (away_nT _ _ _ _) (stays_cons 10 rfl (away_nT _ _ _ _) (stays_nil _ _)))))))) h ?_
  clear h
  intro a w h
  exact hQ a w (h.keep [990, 2])
set_option maxHeartbeats 1000000 in
theorem rSyn_any (s0 : Int) (w : World)   : Calls Try.prog 29 #[Value.int .i64 s0] w (Makes (Bl.syn s0).1 (Bl.syn s0).2 w) := by
  refine calls_of_wp Try.func29 rSyn_body ?_
  obtain ⟨v0, hv0⟩ : ∃ v : Value, v = Value.int .i64 s0 := ⟨_, rfl⟩
  rw [← hv0]
  have hk0 : (Kd.val (.int .i64 s0)).R v0 w := hv0
  have hsN : (#[v0] ++ Array.replicate (Try.f29.ntmps - #[v0].size) undef : Array Value).size = 11 := by kernel_rfl
  have gs0 : (#[v0] ++ Array.replicate (Try.f29.ntmps - #[v0].size) undef : Array Value).getD 0 undef = v0 := by kernel_rfl
  generalize (#[v0] ++ Array.replicate (Try.f29.ntmps - #[v0].size) undef : Array Value) = tm at hsN gs0 ⊢
  obtain ⟨a, ha0⟩ : ∃ a : Act, a = ⟨tm, []⟩ := ⟨_, rfl⟩
  have h : Hold 11 [(0, .val (.int .i64 s0))] w ⟨tm, []⟩ w := ⟨hsN, rfl, Below.refl _ _, (slots_cons 0 (by rw [gs0]; exact hk0) slots_nil)⟩
  obtain ⟨nb, hnb⟩ : ∃ nb, nb = w.heap.size := ⟨_, rfl⟩
  have hn : nb ≤ w.heap.size := by omega
  refine wp_seq ?_
  refine rSyn0a_region s0 nb  hn h ?_
  intro r a w1 hr h
  show Code.wp _ _ _ a w1
  refine wp_seq ?_
  refine wp_seq ?_
  by_cases hz : s0 < 0
  · refine rSyn1a_region s0 nb r hz hr h ?_
    intro a w1 h
    show Code.wp _ _ _ a w1
    refine env_cond (b := true) rfl h ?_
    have h := h.keep [0, 2, 990]
    show Code.wp _ _ _ a w1
    refine wp_seq ?_
    refine rSyn2a_region s0 nb r  hr h ?_
    intro a w1 h
    show Code.wp _ _ _ a w1
    have ev : Bl.syn s0 = (zp, .nil) := if_pos hz
    rw [ev]
    refine wp_ret ?_
    (try simp only [then_ret, block_ret])
    exact law_cell rfl (h.get 2 rfl) h.defers fun A c ha => ⟨A, c, rfl, ha.mono fun b hb => ⟨by have := hb.1; omega, hb.2.1⟩, h.world⟩
  · refine rSyn1b_region s0 nb r hz hr h ?_
    intro a w1 h
    show Code.wp _ _ _ a w1
    refine env_cond (b := false) rfl h ?_
    refine wp_skip ?_
    have h := h.keep [0, 2, 990]
    show Code.wp _ _ _ a w1
    refine wp_seq ?_
    refine rSyn3a_region s0 nb r  hr h ?_
    intro a w1 h
    show Code.wp _ _ _ a w1
    have ev : Bl.syn s0 = Bl.ballE (3, 0, ⟨#[115, 121, 110, 116, 97, 120, 95, 101, 114, 114, 111, 114]⟩) (.node (1, s0, ByteArray.empty) .nil .nil) := Bl.syn_is hz
    rw [ev]
    refine wp_ret ?_
    (try simp only [then_ret, block_ret])
    exact law_cell rfl (h.get 2 rfl) h.defers fun A c ha => ⟨A, c, rfl, ha.mono fun b hb => ⟨by have := hb.1; omega, hb.2.1⟩, h.world⟩
section
variable {ops : Array Oper} {Q : Exit → Act → World → Prop} {E : Nat → Kd} {D : Nat → Nat} {base : Nat → Option Kd} {N : Nat}
theorem step_rSyn {i : Nat} {n g : Nat} {G : Option Nat} {x0 : Operand} {s0 : Int} (hop : (ops[i]?).map (·.op) = some (.call { callee := .value (.func 29), args := #[x0], argTypes := #[3] })) (h0 : Opd ops E D base N i x0 (.val (.int .i64 s0))) (hg : Opd ops E D base N i (.tmp g) (.sat (gP n G))) (hE : E i = .sat (nT n G (Bl.syn s0).1 (Bl.syn s0).2)) : Step Try.prog ops Q E D base N i :=
  step_mk hop (fun _ _ => by kernel_rfl) hg (fun a w h => by
    have e0 : a.eval x0 = .int .i64 s0 := h0 a w h
    rw [show (#[x0] : Array Operand).map a.eval = #[.int .i64 s0] by rw [← e0]; simp]
    exact rSyn_any s0 w ) hE
end
end Go.Proofs.Ytapcnehpechkpaa
