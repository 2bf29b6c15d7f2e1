/-
  Laws of operations and of returns for functions whose result is a cell.
-/
import Derived.Test.YtapcnehpechkpaaRes
import Derived.Test.YtapcnehpechkpaaAppend
namespace Go.Proofs.Ytapcnehpechkpaa
set_option linter.unusedVariables false
set_option linter.unusedSimpArgs false
set_option maxRecDepth 100000
open Go.RowKit

theorem ns_new {n : Nat} {G : Option Nat} {w w' : World} {b : Nat} (hg : n ≤ w.heap.size ∧ ∀ r, G = some r → r < w.heap.size) (h1 : w.heap.size ≤ b) (h2 : b < w'.heap.size) : Ns n G w' b :=
  ⟨Nat.le_trans hg.1 h1, h2, fun e => by have := hg.2 _ e; omega⟩
theorem load_cellT (w : World) (b : Nat) (p : Pay) (A : Option Addr) (n c : Nat) (ht : TermAt w b p A n c) : (loadVar 24 ⟨b, 0, none⟩).run Try.prog w = .ok (tv p A n c) w := by
  have hl : (loadCells ⟨b, 0, none⟩ 4).run Try.prog w = .ok #[.int .i64 p.1, .int .i64 p.2.1, .string p.2.2, .slice A n c] w := by
    refine run_loadCells_list (P := Try.prog) w ⟨b, 0, none⟩ [.int .i64 p.1, .int .i64 p.2.1, .string p.2.2, .slice A n c] (fun j v hv => ?_)
    have hadd : (⟨b, 0, none⟩ : Addr).add j = ⟨b, j, none⟩ := by unfold Addr.add; split <;> simp_all
    rw [hadd]
    match j, hv with
    | 0, hv => cases hv; exact ht.kind
    | 1, hv => cases hv; exact ht.num
    | 2, hv => cases hv; exact ht.name
    | 3, hv => cases hv; exact ht.args
    | _ + 4, hv => cases hv
  have hagg : (isAgg 24).run Try.prog w = .ok true w := by
    unfold isAgg
    rw [Sem.run_bind, run_underlying Try.underlying24 w]
    rfl
  cases hq : Try.prog.info? 24 with
  | none => have := term_info; rw [hq] at this; cases this
  | some i =>
    have hs : i.size = 4 := by have := term_info; rw [hq] at this; simpa using this
    simp [loadVar, Sem.run_bind, hagg, sizeOf, typeInfo, hq, hs, hl]
/-- A row whose capacity is known to suffice. -/
def nK (n : Nat) (G : Option Nat) (F : Fo) : Pd where
  R := fun v w => ∃ A c, v = .slice A (Tm.len F) c ∧ Tm.len F ≤ c ∧ ArgsIn (Ns n G w) w A (Tm.len F) F
  keep := by rintro v w w' ⟨A, c, e, hc, h⟩ hb; exact ⟨A, c, e, hc, h.ns hb⟩
theorem away_nK (n r : Nat) (F : Fo) : Away r (.sat (nK n (some r) F)) := by rintro v w w' hw ⟨A, c, e, hc, h⟩; exact ⟨A, c, e, hc, h.wrote hw⟩
theorem eqb_toList (s t : ByteArray) : (s.toList == t.toList) = decide (s = t) := by
  by_cases h : s = t
  · subst h; simp
  · rw [decide_eq_false h]
    have : s.toList ≠ t.toList := fun e => h (by
      rw [Lib.toList_data, Lib.toList_data] at e
      obtain ⟨⟨a⟩⟩ := s
      obtain ⟨⟨b⟩⟩ := t
      simp at e
      subst e; rfl)
    simpa using this
theorem nrow_new {w : World} {m : Nat} {G : Option Nat} (vs : List Value) (F : Fo) (n : Nat) (t : TypeId) (hg : m ≤ w.heap.size ∧ ∀ r, G = some r → r < w.heap.size) (hv : Vals (Ns m G w) w vs F) (hn : Tm.len F = n) (h63 : n ≤ 1000) :
    (nK m G F).R (.slice (some ⟨w.heap.size, 0, none⟩) n n) (w.alloc (.cells (tcells vs).toArray t)) := by
  subst hn
  refine ⟨some ⟨w.heap.size, 0, none⟩, Tm.len F, rfl, Nat.le_refl _, ?_⟩
  have hl := Vals.len vs F hv
  have hb := alloc_new w (.cells (tcells vs).toArray t)
  have hs : (w.alloc (.cells (tcells vs).toArray t)).heap.size = w.heap.size + 1 := World.size_alloc _ _
  have hv' : Vals (Ns m G (w.alloc (.cells (tcells vs).toArray t))) (w.alloc (.cells (tcells vs).toArray t)) vs F := Vals.mono (fun b h => ⟨h.1, by rw [hs]; exact Nat.lt_succ_of_lt h.2.1, h.2.2⟩) vs F (Vals.keep (fun b h => Below.heap_alloc w _ b h.2.1) vs F hv)
  have := Vals.args (b := w.heap.size) (o := 0) (S := Ns m G (w.alloc (.cells (tcells vs).toArray t))) (ns_new hg (Nat.le_refl _) (by rw [hs]; omega)) hv' (by omega) (fun j u hu => by
    rw [Nat.zero_add]
    rw [cell_of_row _ _ _ _ _ _ hb]
    simpa using hu)
  rw [hl] at this
  exact this
section
variable {ops : Array Oper} {Q : Exit → Act → World → Prop} {E : Nat → Kd} {D : Nat → Nat} {base : Nat → Option Kd} {N : Nat}
theorem Opd.ofT {i n : Nat} {G : Option Nat} {x : Operand} {p : Pay} {l : Fo} (h : Opd ops E D base N i x (.sat (nT n G p l))) : Opd ops E D base N i x (.term p l) := fun a w hc => by
  obtain ⟨A, c, e, ha⟩ := h a w hc
  exact ⟨A, c, e, ha.low⟩
theorem Opd.ofR {i n : Nat} {G : Option Nat} {x : Operand} {F : Fo} (h : Opd ops E D base N i x (.sat (nR n G F))) : Opd ops E D base N i x (.row F) := fun a w hc => by
  obtain ⟨A, c, e, ha⟩ := h a w hc
  exact ⟨A, c, e, ha.low⟩
theorem Opd.ofK {i n : Nat} {G : Option Nat} {x : Operand} {F : Fo} (h : Opd ops E D base N i x (.sat (nK n G F))) : Opd ops E D base N i x (.sat (nR n G F)) := fun a w hc => by
  obtain ⟨A, c, e, _, ha⟩ := h a w hc
  exact ⟨A, c, e, ha⟩
theorem Opd.nilK {i n : Nat} {G : Option Nat} {x : Operand} (h : Opd ops E D base N i x (.val (.slice none 0 0))) : Opd ops E D base N i x (.sat (nK n G .nil)) := fun a w hc => by
  have e : a.eval x = .slice none 0 0 := h a w hc
  exact ⟨none, 0, e, Nat.le_refl _, ArgsIn.nil _ _ _⟩
theorem Opd.ofP {i n : Nat} {G : Option Nat} {x : Operand} {p : Pay} {l : Fo} (h : Opd ops E D base N i x (.sat (nP n G p l))) : Opd ops E D base N i x (.ptrT p l) := fun a w hc => by
  obtain ⟨b, o, A, c, e, hlt, hn⟩ := h a w hc
  exact ⟨b, o, A, c, e, hlt.2.1, hn.kind, hn.num, hn.name, hn.args, hn.inn.low⟩
theorem Opd.low {i n : Nat} {G : Option Nat} {x : Operand} {p : Pay} {l : Fo} (h : Opd ops E D base N i x (.sat (nT n G p l))) : Opd ops E D base N i x (.sat (nT 0 G p l)) := fun a w hc => by
  obtain ⟨A, c, e, ha⟩ := h a w hc
  exact ⟨A, c, e, ha.mono fun b hb => ⟨Nat.zero_le _, hb.2⟩⟩
theorem Opd.tT {i : Nat} {x : Operand} {p : Pay} {l : Fo} (h : Opd ops E D base N i x (.term p l)) : Opd ops E D base N i x (.sat (nT 0 none p l)) := fun a w hc => by
  obtain ⟨A, c, e, ha⟩ := h a w hc
  exact ⟨A, c, e, ha.mono fun b hb => ⟨Nat.zero_le _, hb, fun e => by cases e⟩⟩
theorem Opd.nilT {i n : Nat} {G : Option Nat} {x : Operand} {v : Value} {p : Pay} {c : Nat} (hv : v = tv p none 0 c) (h : Opd ops E D base N i x (.val v)) : Opd ops E D base N i x (.sat (nT n G p .nil)) := fun a w hc => by
  have e : a.eval x = v := h a w hc
  exact ⟨none, c, e.trans hv, ArgsIn.nil _ _ _⟩
theorem step_nload {i n : Nat} {G : Option Nat} {x : Operand} {p : Pay} {l : Fo} (hop : (ops[i]?).map (·.op) = some (.load 24 x)) (hx : Opd ops E D base N i x (.sat (nP n G p l))) (hE : E i = .sat (nT n G p l)) : Step Try.prog ops Q E D base N i :=
  step_still hop hE fun a w h dst ty' pos after guard => by
    obtain ⟨b, o, A, c, e, hb, hn⟩ := hx a w h
    refine ⟨tv p A (Tm.len l) c, ?_, A, c, rfl, hn.inn⟩
    have h0 := hn.kind
    have h1 := hn.num
    have h2 := hn.name
    have h3 := hn.args
    generalize Tm.len l = n at h3
    unfold execOp
    simp only [e]
    go_simp
theorem step_cload {i n r : Nat} {x : Operand} {p : Pay} {l : Fo} (hop : (ops[i]?).map (·.op) = some (.load 24 x)) (hx : Opd ops E D base N i x (.sat (rC n r p l))) (hE : E i = .sat (nT n (some r) p l)) : Step Try.prog ops Q E D base N i :=
  step_still hop hE fun a w h dst ty' pos after guard => by
    obtain ⟨e, hr, hs, A, c, hn, ha⟩ := hx a w h
    refine ⟨tv p A (Tm.len l) c, ?_, A, c, rfl, ha⟩
    have h0 := hn.kind
    have h1 := hn.num
    have h2 := hn.name
    have h3 := hn.args
    generalize Tm.len l = n at h3
    unfold execOp
    simp only [e]
    go_simp
theorem step_nfield3 {i n : Nat} {G : Option Nat} {x : Operand} {p : Pay} {l : Fo} (hop : (ops[i]?).map (·.op) = some (.fieldAddr 24 x 3)) (hx : Opd ops E D base N i x (.sat (nP n G p l))) (hE : E i = .sat (nQ n G l)) : Step Try.prog ops Q E D base N i :=
  step_still hop hE fun a w h dst ty' pos after guard => by
    obtain ⟨b, o, A, c, e, hb, hn⟩ := hx a w h
    refine ⟨.pointer (some ⟨b, o + 3, none⟩), ?_, _, A, c, rfl, hb, hn.args, hn.inn⟩
    unfold execOp
    simp only [e]
    go_simp
theorem step_nload_row {i n : Nat} {G : Option Nat} {x : Operand} {F : Fo} (hop : (ops[i]?).map (·.op) = some (.load 22 x)) (hx : Opd ops E D base N i x (.sat (nQ n G F))) (hE : E i = .sat (nR n G F)) : Step Try.prog ops Q E D base N i :=
  step_still hop hE fun a w h dst ty' pos after guard => by
    obtain ⟨ad, A, c, e, hb, hc, ha⟩ := hx a w h
    refine ⟨.slice A (Tm.len F) c, ?_, A, c, rfl, ha⟩
    generalize Tm.len F = n at hc
    unfold execOp
    simp only [e]
    go_simp
theorem step_nindex {i n : Nat} {G : Option Nat} {x y : Operand} {F l r : Fo} {k : Nat} {p : Pay} (hop : (ops[i]?).map (·.op) = some (.indexAddr 22 x y)) (hx : Opd ops E D base N i x (.sat (nR n G F))) (hy : Opd ops E D base N i y (.val (.int .i64 (k : Int)))) (hd : Tm.dropF F k = .node p l r) (hE : E i = .sat (nP n G p l)) : Step Try.prog ops Q E D base N i :=
  step_still hop hE fun a w h dst ty' pos after guard => by
    obtain ⟨A, c, e, ha⟩ := hx a w h
    have e' : a.eval y = .int .i64 (k : Int) := hy a w h
    have hk : k < Tm.len F := by
      have h1 := Tm.len_drop F k
      rw [hd] at h1
      have h2 : Tm.len (Fo.node p l r) = Tm.len r + 1 := rfl
      omega
    obtain ⟨b, o, p1, l1, r1, A1, c1, rfl, hb, hd', hn⟩ := ha.at hk
    rw [hd] at hd'
    cases hd'
    refine ⟨.pointer (some ⟨b, o + k * 4, none⟩), ?_, b, o + k * 4, A1, c1, rfl, hb, hn⟩
    generalize Tm.len F = n at e hk
    unfold execOp
    simp only [e, e']
    go_simp
theorem step_nzero {i n : Nat} {G : Option Nat} (hop : (ops[i]?).map (·.op) = some (.build 24 #[])) (hE : E i = .sat (nT n G zp .nil)) : Step Try.prog ops Q E D base N i :=
  step_still hop hE fun a w h dst ty' pos after guard => by
    refine ⟨tv zp none 0 0, ?_, none, 0, rfl, ArgsIn.nil _ _ _⟩
    unfold execOp
    go_simp
    try rfl
theorem step_natom {i n : Nat} {G : Option Nat} {y : Operand} {s : ByteArray} (hop : (ops[i]?).map (·.op) = some (.build 24 #[(0, .const (.int .i64 2)), (2, y)])) (hy : Opd ops E D base N i y (.val (.string s))) (hE : E i = .sat (nT n G (2, 0, s) .nil)) : Step Try.prog ops Q E D base N i :=
  step_still hop hE fun a w h dst ty' pos after guard => by
    have e : a.eval y = .string s := hy a w h
    refine ⟨tv (2, 0, s) none 0 0, ?_, none, 0, rfl, ArgsIn.nil _ _ _⟩
    unfold execOp
    simp only [List.map_toArray, List.map_cons, List.map_nil, e]
    go_simp
    try rfl
theorem step_nnum {i n : Nat} {G : Option Nat} {y : Operand} {z : Int} (hop : (ops[i]?).map (·.op) = some (.build 24 #[(0, .const (.int .i64 1)), (1, y)])) (hy : Opd ops E D base N i y (.val (.int .i64 z))) (hE : E i = .sat (nT n G (1, z, ByteArray.empty) .nil)) : Step Try.prog ops Q E D base N i :=
  step_still hop hE fun a w h dst ty' pos after guard => by
    have e : a.eval y = .int .i64 z := hy a w h
    refine ⟨tv (1, z, ByteArray.empty) none 0 0, ?_, none, 0, rfl, ArgsIn.nil _ _ _⟩
    unfold execOp
    simp only [List.map_toArray, List.map_cons, List.map_nil, e]
    go_simp
    try rfl
theorem step_nvar {i n : Nat} {G : Option Nat} {y : Operand} {z : Int} (hop : (ops[i]?).map (·.op) = some (.build 24 #[(1, y)])) (hy : Opd ops E D base N i y (.val (.int .i64 z))) (hE : E i = .sat (nT n G (0, z, ByteArray.empty) .nil)) : Step Try.prog ops Q E D base N i :=
  step_still hop hE fun a w h dst ty' pos after guard => by
    have e : a.eval y = .int .i64 z := hy a w h
    refine ⟨tv (0, z, ByteArray.empty) none 0 0, ?_, none, 0, rfl, ArgsIn.nil _ _ _⟩
    unfold execOp
    simp only [List.map_toArray, List.map_cons, List.map_nil, e]
    go_simp
    try rfl
theorem step_nbuild3 {i n : Nat} {G : Option Nat} {y z : Operand} {s : ByteArray} {F : Fo} (hop : (ops[i]?).map (·.op) = some (.build 24 #[(0, .const (.int .i64 3)), (2, y), (3, z)])) (hy : Opd ops E D base N i y (.val (.string s))) (hz : Opd ops E D base N i z (.sat (nR n G F))) (hE : E i = .sat (nT n G (3, 0, s) F)) : Step Try.prog ops Q E D base N i :=
  step_still hop hE fun a w h dst ty' pos after guard => by
    have e : a.eval y = .string s := hy a w h
    obtain ⟨A, c, e', ha⟩ := hz a w h
    refine ⟨tv (3, 0, s) A (Tm.len F) c, ?_, A, c, rfl, ha⟩
    generalize Tm.len F = m at e'
    unfold execOp
    simp only [List.map_toArray, List.map_cons, List.map_nil, e, e']
    go_simp
    try rfl
theorem step_eqb_str {i : Nat} {x y : Operand} {s t : ByteArray} {b : Bool} (hop : (ops[i]?).map (·.op) = some (.binOp .eql 9 x y 9)) (hx : Opd ops E D base N i x (.val (.string s))) (hy : Opd ops E D base N i y (.val (.string t))) (hb : decide (s = t) = b) (hE : E i = .val (.bool b)) : Step Try.prog ops Q E D base N i :=
  step_still hop hE fun a w h dst ty' pos after guard => by
    have e : a.eval x = .string s := hx a w h
    have e' : a.eval y = .string t := hy a w h
    refine ⟨.bool (s.toList == t.toList), ?_, ?_⟩
    · unfold execOp
      simp only [e, e']
      go_simp
    · rw [← hb, eqb_toList]; rfl
theorem step_nslice1 {i n g : Nat} {G : Option Nat} {x0 : Operand} {p0 : Pay} {l0 : Fo} (hop : (ops[i]?).map (·.op) = some (.buildSlice 22 1 #[(0, x0)])) (h0 : Opd ops E D base N i x0 (.sat (nT n G p0 l0))) (hg : Opd ops E D base N i (.tmp g) (.sat (gP n G))) (hE : E i = .sat (nK n G (.node p0 l0 .nil))) : Step Try.prog ops Q E D base N i := by
  intro o ho a w hc K hK
  have hxo := op_of ho hop
  obtain ⟨dst, op, ty, pos, after, guard⟩ := o
  have hx' : op = _ := hxo
  subst hx'
  have hgg := hg a w hc
  obtain ⟨A0, c0, e0, ha0⟩ := h0 a w hc
  have hv : Vals (Ns n G w) w [tv p0 A0 (Tm.len l0) c0] (.node p0 l0 .nil) := ⟨⟨A0, c0, rfl, ha0⟩, trivial⟩
  have hr := nrow_new _ _ 1 24 hgg hv rfl (by decide)
  have hrun : (execOp a.eval ⟨dst, .buildSlice 22 1 #[(0, x0)], ty, pos, after, guard⟩).run Try.prog w = .ok (.value (.slice (some ⟨w.heap.size, 0, none⟩) 1 1)) (w.alloc (.cells (tcells [tv p0 A0 (Tm.len l0) c0]).toArray 24)) := by
    unfold execOp
    simp only [List.map_toArray, List.map_cons, List.map_nil, e0]
    go_simp
    rfl
  unfold Oper.wp
  rw [hrun]
  exact hK _ _ (hE ▸ hr) ((Below.refl _ _).alloc (Nat.le_refl _) _)
theorem step_nslice2 {i n g : Nat} {G : Option Nat} {x0 x1 : Operand} {p0 p1 : Pay} {l0 l1 : Fo} (hop : (ops[i]?).map (·.op) = some (.buildSlice 22 2 #[(0, x0), (1, x1)])) (h0 : Opd ops E D base N i x0 (.sat (nT n G p0 l0))) (h1 : Opd ops E D base N i x1 (.sat (nT n G p1 l1))) (hg : Opd ops E D base N i (.tmp g) (.sat (gP n G))) (hE : E i = .sat (nK n G (.node p0 l0 (.node p1 l1 .nil)))) : Step Try.prog ops Q E D base N i := by
  intro o ho a w hc K hK
  have hxo := op_of ho hop
  obtain ⟨dst, op, ty, pos, after, guard⟩ := o
  have hx' : op = _ := hxo
  subst hx'
  have hgg := hg a w hc
  obtain ⟨A0, c0, e0, ha0⟩ := h0 a w hc
  obtain ⟨A1, c1, e1, ha1⟩ := h1 a w hc
  have hv : Vals (Ns n G w) w [tv p0 A0 (Tm.len l0) c0, tv p1 A1 (Tm.len l1) c1] (.node p0 l0 (.node p1 l1 .nil)) := ⟨⟨A0, c0, rfl, ha0⟩, ⟨A1, c1, rfl, ha1⟩, trivial⟩
  have hr := nrow_new _ _ 2 24 hgg hv rfl (by decide)
  have hrun : (execOp a.eval ⟨dst, .buildSlice 22 2 #[(0, x0), (1, x1)], ty, pos, after, guard⟩).run Try.prog w = .ok (.value (.slice (some ⟨w.heap.size, 0, none⟩) 2 2)) (w.alloc (.cells (tcells [tv p0 A0 (Tm.len l0) c0, tv p1 A1 (Tm.len l1) c1]).toArray 24)) := by
    unfold execOp
    simp only [List.map_toArray, List.map_cons, List.map_nil, e0, e1]
    go_simp
    rfl
  unfold Oper.wp
  rw [hrun]
  exact hK _ _ (hE ▸ hr) ((Below.refl _ _).alloc (Nat.le_refl _) _)
theorem step_nslice3 {i n g : Nat} {G : Option Nat} {x0 x1 x2 : Operand} {p0 p1 p2 : Pay} {l0 l1 l2 : Fo} (hop : (ops[i]?).map (·.op) = some (.buildSlice 22 3 #[(0, x0), (1, x1), (2, x2)])) (h0 : Opd ops E D base N i x0 (.sat (nT n G p0 l0))) (h1 : Opd ops E D base N i x1 (.sat (nT n G p1 l1))) (h2 : Opd ops E D base N i x2 (.sat (nT n G p2 l2))) (hg : Opd ops E D base N i (.tmp g) (.sat (gP n G))) (hE : E i = .sat (nK n G (.node p0 l0 (.node p1 l1 (.node p2 l2 .nil))))) : Step Try.prog ops Q E D base N i := by
  intro o ho a w hc K hK
  have hxo := op_of ho hop
  obtain ⟨dst, op, ty, pos, after, guard⟩ := o
  have hx' : op = _ := hxo
  subst hx'
  have hgg := hg a w hc
  obtain ⟨A0, c0, e0, ha0⟩ := h0 a w hc
  obtain ⟨A1, c1, e1, ha1⟩ := h1 a w hc
  obtain ⟨A2, c2, e2, ha2⟩ := h2 a w hc
  have hv : Vals (Ns n G w) w [tv p0 A0 (Tm.len l0) c0, tv p1 A1 (Tm.len l1) c1, tv p2 A2 (Tm.len l2) c2] (.node p0 l0 (.node p1 l1 (.node p2 l2 .nil))) := ⟨⟨A0, c0, rfl, ha0⟩, ⟨A1, c1, rfl, ha1⟩, ⟨A2, c2, rfl, ha2⟩, trivial⟩
  have hr := nrow_new _ _ 3 24 hgg hv rfl (by decide)
  have hrun : (execOp a.eval ⟨dst, .buildSlice 22 3 #[(0, x0), (1, x1), (2, x2)], ty, pos, after, guard⟩).run Try.prog w = .ok (.value (.slice (some ⟨w.heap.size, 0, none⟩) 3 3)) (w.alloc (.cells (tcells [tv p0 A0 (Tm.len l0) c0, tv p1 A1 (Tm.len l1) c1, tv p2 A2 (Tm.len l2) c2]).toArray 24)) := by
    unfold execOp
    simp only [List.map_toArray, List.map_cons, List.map_nil, e0, e1, e2]
    go_simp
    rfl
  unfold Oper.wp
  rw [hrun]
  exact hK _ _ (hE ▸ hr) ((Below.refl _ _).alloc (Nat.le_refl _) _)
theorem step_mk {i f n g : Nat} {G : Option Nat} {xs : Array Operand} {tys : Array TypeId} {p : Pay} {l : Fo} (hop : (ops[i]?).map (·.op) = some (.call { callee := .value (.func f), args := xs, argTypes := tys })) (he : ∀ (args : Array Value) (w : World), (callFunc f args).run Try.prog w = .ok (.enter f args) w)
    (hg : Opd ops E D base N i (.tmp g) (.sat (gP n G))) (hc : ∀ a w, Ctx ops E D base N i a w → Calls Try.prog f (xs.map a.eval) w (Makes p l w)) (hE : E i = .sat (nT n G p l)) : Step Try.prog ops Q E D base N i :=
  step_call hop he fun a w h => (hc a w h).mono fun e w' ⟨A, c, he, ha, hb⟩ => ⟨_, he, by rw [hE]; exact ⟨A, c, rfl, ha.mono fun b hb' => ns_new (hg a w h) hb'.1 hb'.2⟩, hb⟩
theorem step_mkB {i f n g : Nat} {G : Option Nat} {xs : Array Operand} {tys : Array TypeId} {p : Pay} {l : Fo} {b : Bool} (hop : (ops[i]?).map (·.op) = some (.call { callee := .value (.func f), args := xs, argTypes := tys })) (he : ∀ (args : Array Value) (w : World), (callFunc f args).run Try.prog w = .ok (.enter f args) w)
    (hg : Opd ops E D base N i (.tmp g) (.sat (gP n G))) (hc : ∀ a w, Ctx ops E D base N i a w → Calls Try.prog f (xs.map a.eval) w (MkB w.heap.size p l b w)) (hE : E i = .sat (nT2 n G p l b)) : Step Try.prog ops Q E D base N i :=
  step_call hop he fun a w h => (hc a w h).mono fun e w' ⟨A, c, he, ha, hb⟩ => ⟨_, he, by rw [hE]; exact ⟨A, c, rfl, ha.mono fun b hb' => ns_new (hg a w h) hb'.1 hb'.2⟩, hb⟩
theorem step_mkB0 {i f : Nat} {xs : Array Operand} {tys : Array TypeId} {p : Pay} {l : Fo} {b : Bool} (hop : (ops[i]?).map (·.op) = some (.call { callee := .value (.func f), args := xs, argTypes := tys })) (he : ∀ (args : Array Value) (w : World), (callFunc f args).run Try.prog w = .ok (.enter f args) w)
    (hc : ∀ a w, Ctx ops E D base N i a w → Calls Try.prog f (xs.map a.eval) w (MkB 0 p l b w)) (hE : E i = .sat (nT2 0 none p l b)) : Step Try.prog ops Q E D base N i :=
  step_call hop he fun a w h => (hc a w h).mono fun e w' ⟨A, c, he, ha, hb⟩ => ⟨_, he, by rw [hE]; exact ⟨A, c, rfl, ha.mono fun b hb' => ⟨Nat.zero_le _, hb'.2, fun e => by cases e⟩⟩, hb⟩
theorem step_mkXB {i f n g : Nat} {G : Option Nat} {xs : Array Operand} {tys : Array TypeId} {x : Value} {p : Pay} {l : Fo} {b : Bool} (hop : (ops[i]?).map (·.op) = some (.call { callee := .value (.func f), args := xs, argTypes := tys })) (he : ∀ (args : Array Value) (w : World), (callFunc f args).run Try.prog w = .ok (.enter f args) w)
    (hg : Opd ops E D base N i (.tmp g) (.sat (gP n G))) (hc : ∀ a w, Ctx ops E D base N i a w → Calls Try.prog f (xs.map a.eval) w (MkXB w.heap.size x p l b w)) (hE : E i = .sat (nT3 n G x p l b)) : Step Try.prog ops Q E D base N i :=
  step_call hop he fun a w h => (hc a w h).mono fun e w' ⟨A, c, he, ha, hb⟩ => ⟨_, he, by rw [hE]; exact ⟨A, c, rfl, ha.mono fun b hb' => ns_new (hg a w h) hb'.1 hb'.2⟩, hb⟩
theorem step_mkXXB {i f n g : Nat} {G : Option Nat} {xs : Array Operand} {tys : Array TypeId} {x y : Value} {p : Pay} {l : Fo} {b : Bool} (hop : (ops[i]?).map (·.op) = some (.call { callee := .value (.func f), args := xs, argTypes := tys })) (he : ∀ (args : Array Value) (w : World), (callFunc f args).run Try.prog w = .ok (.enter f args) w)
    (hg : Opd ops E D base N i (.tmp g) (.sat (gP n G))) (hc : ∀ a w, Ctx ops E D base N i a w → Calls Try.prog f (xs.map a.eval) w (MkXXB w.heap.size x y p l b w)) (hE : E i = .sat (nT4 n G x y p l b)) : Step Try.prog ops Q E D base N i :=
  step_call hop he fun a w h => (hc a w h).mono fun e w' ⟨A, c, he, ha, hb⟩ => ⟨_, he, by rw [hE]; exact ⟨A, c, rfl, ha.mono fun b hb' => ns_new (hg a w h) hb'.1 hb'.2⟩, hb⟩
theorem step_mkLB {i f n g : Nat} {G : Option Nat} {xs : Array Operand} {tys : Array TypeId} {F : Fo} {p : Pay} {l : Fo} {b : Bool} (hop : (ops[i]?).map (·.op) = some (.call { callee := .value (.func f), args := xs, argTypes := tys })) (he : ∀ (args : Array Value) (w : World), (callFunc f args).run Try.prog w = .ok (.enter f args) w)
    (hg : Opd ops E D base N i (.tmp g) (.sat (gP n G))) (hc : ∀ a w, Ctx ops E D base N i a w → Calls Try.prog f (xs.map a.eval) w (MkLB w.heap.size F p l b w)) (hE : E i = .sat (nL3 n G F p l b)) : Step Try.prog ops Q E D base N i :=
  step_call hop he fun a w h => (hc a w h).mono fun e w' ⟨A, c, A', c', he, ha, ha', hb⟩ => ⟨_, he, by rw [hE]; exact ⟨A, c, A', c', rfl, ha.mono fun b hb' => ns_new (hg a w h) hb'.1 hb'.2, ha'.mono fun b hb' => ns_new (hg a w h) hb'.1 hb'.2⟩, hb⟩
theorem step_nT2_0 {i n : Nat} {G : Option Nat} {z : Operand} {p : Pay} {l : Fo} {b : Bool} (hop : (ops[i]?).map (·.op) = some (.extract z 0)) (hx : Opd ops E D base N i z (.sat (nT2 n G p l b))) (hE : E i = .sat (nT n G p l)) : Step Try.prog ops Q E D base N i :=
  step_still hop hE fun a w h dst ty' pos after guard => by
    obtain ⟨A, c, e, ha⟩ := hx a w h
    refine ⟨tv p A (Tm.len l) c, ?_, A, c, rfl, ha⟩
    unfold execOp
    simp only [e]
    go_simp
theorem step_nT2_1 {i n : Nat} {G : Option Nat} {z : Operand} {p : Pay} {l : Fo} {b : Bool} (hop : (ops[i]?).map (·.op) = some (.extract z 1)) (hx : Opd ops E D base N i z (.sat (nT2 n G p l b))) (hE : E i = .val (.bool b)) : Step Try.prog ops Q E D base N i :=
  step_still hop hE fun a w h dst ty' pos after guard => by
    obtain ⟨A, c, e, ha⟩ := hx a w h
    refine ⟨.bool b, ?_, rfl⟩
    unfold execOp
    simp only [e]
    go_simp
theorem step_nT3_0 {i n : Nat} {G : Option Nat} {z : Operand} {x : Value} {p : Pay} {l : Fo} {b : Bool} (hop : (ops[i]?).map (·.op) = some (.extract z 0)) (hx : Opd ops E D base N i z (.sat (nT3 n G x p l b))) (hE : E i = .val x) : Step Try.prog ops Q E D base N i :=
  step_still hop hE fun a w h dst ty' pos after guard => by
    obtain ⟨A, c, e, ha⟩ := hx a w h
    refine ⟨x, ?_, rfl⟩
    unfold execOp
    simp only [e]
    go_simp
theorem step_nT3_1 {i n : Nat} {G : Option Nat} {z : Operand} {x : Value} {p : Pay} {l : Fo} {b : Bool} (hop : (ops[i]?).map (·.op) = some (.extract z 1)) (hx : Opd ops E D base N i z (.sat (nT3 n G x p l b))) (hE : E i = .sat (nT n G p l)) : Step Try.prog ops Q E D base N i :=
  step_still hop hE fun a w h dst ty' pos after guard => by
    obtain ⟨A, c, e, ha⟩ := hx a w h
    refine ⟨tv p A (Tm.len l) c, ?_, A, c, rfl, ha⟩
    unfold execOp
    simp only [e]
    go_simp
theorem step_nT3_2 {i n : Nat} {G : Option Nat} {z : Operand} {x : Value} {p : Pay} {l : Fo} {b : Bool} (hop : (ops[i]?).map (·.op) = some (.extract z 2)) (hx : Opd ops E D base N i z (.sat (nT3 n G x p l b))) (hE : E i = .val (.bool b)) : Step Try.prog ops Q E D base N i :=
  step_still hop hE fun a w h dst ty' pos after guard => by
    obtain ⟨A, c, e, ha⟩ := hx a w h
    refine ⟨.bool b, ?_, rfl⟩
    unfold execOp
    simp only [e]
    go_simp
theorem step_nT4_0 {i n : Nat} {G : Option Nat} {z : Operand} {x y : Value} {p : Pay} {l : Fo} {b : Bool} (hop : (ops[i]?).map (·.op) = some (.extract z 0)) (hx : Opd ops E D base N i z (.sat (nT4 n G x y p l b))) (hE : E i = .val x) : Step Try.prog ops Q E D base N i :=
  step_still hop hE fun a w h dst ty' pos after guard => by
    obtain ⟨A, c, e, ha⟩ := hx a w h
    refine ⟨x, ?_, rfl⟩
    unfold execOp
    simp only [e]
    go_simp
theorem step_nT4_1 {i n : Nat} {G : Option Nat} {z : Operand} {x y : Value} {p : Pay} {l : Fo} {b : Bool} (hop : (ops[i]?).map (·.op) = some (.extract z 1)) (hx : Opd ops E D base N i z (.sat (nT4 n G x y p l b))) (hE : E i = .val y) : Step Try.prog ops Q E D base N i :=
  step_still hop hE fun a w h dst ty' pos after guard => by
    obtain ⟨A, c, e, ha⟩ := hx a w h
    refine ⟨y, ?_, rfl⟩
    unfold execOp
    simp only [e]
    go_simp
theorem step_nT4_2 {i n : Nat} {G : Option Nat} {z : Operand} {x y : Value} {p : Pay} {l : Fo} {b : Bool} (hop : (ops[i]?).map (·.op) = some (.extract z 2)) (hx : Opd ops E D base N i z (.sat (nT4 n G x y p l b))) (hE : E i = .sat (nT n G p l)) : Step Try.prog ops Q E D base N i :=
  step_still hop hE fun a w h dst ty' pos after guard => by
    obtain ⟨A, c, e, ha⟩ := hx a w h
    refine ⟨tv p A (Tm.len l) c, ?_, A, c, rfl, ha⟩
    unfold execOp
    simp only [e]
    go_simp
theorem step_nT4_3 {i n : Nat} {G : Option Nat} {z : Operand} {x y : Value} {p : Pay} {l : Fo} {b : Bool} (hop : (ops[i]?).map (·.op) = some (.extract z 3)) (hx : Opd ops E D base N i z (.sat (nT4 n G x y p l b))) (hE : E i = .val (.bool b)) : Step Try.prog ops Q E D base N i :=
  step_still hop hE fun a w h dst ty' pos after guard => by
    obtain ⟨A, c, e, ha⟩ := hx a w h
    refine ⟨.bool b, ?_, rfl⟩
    unfold execOp
    simp only [e]
    go_simp
theorem step_nL3_0 {i n : Nat} {G : Option Nat} {z : Operand} {F : Fo} {p : Pay} {l : Fo} {b : Bool} (hop : (ops[i]?).map (·.op) = some (.extract z 0)) (hx : Opd ops E D base N i z (.sat (nL3 n G F p l b))) (hE : E i = .sat (nR n G F)) : Step Try.prog ops Q E D base N i :=
  step_still hop hE fun a w h dst ty' pos after guard => by
    obtain ⟨A, c, A', c', e, ha, ha'⟩ := hx a w h
    refine ⟨.slice A' (Tm.len F) c', ?_, A', c', rfl, ha'⟩
    unfold execOp
    simp only [e]
    go_simp
theorem step_nL3_1 {i n : Nat} {G : Option Nat} {z : Operand} {F : Fo} {p : Pay} {l : Fo} {b : Bool} (hop : (ops[i]?).map (·.op) = some (.extract z 1)) (hx : Opd ops E D base N i z (.sat (nL3 n G F p l b))) (hE : E i = .sat (nT n G p l)) : Step Try.prog ops Q E D base N i :=
  step_still hop hE fun a w h dst ty' pos after guard => by
    obtain ⟨A, c, A', c', e, ha, ha'⟩ := hx a w h
    refine ⟨tv p A (Tm.len l) c, ?_, A, c, rfl, ha⟩
    unfold execOp
    simp only [e]
    go_simp
theorem step_nL3_2 {i n : Nat} {G : Option Nat} {z : Operand} {F : Fo} {p : Pay} {l : Fo} {b : Bool} (hop : (ops[i]?).map (·.op) = some (.extract z 2)) (hx : Opd ops E D base N i z (.sat (nL3 n G F p l b))) (hE : E i = .val (.bool b)) : Step Try.prog ops Q E D base N i :=
  step_still hop hE fun a w h dst ty' pos after guard => by
    obtain ⟨A, c, A', c', e, ha, ha'⟩ := hx a w h
    refine ⟨.bool b, ?_, rfl⟩
    unfold execOp
    simp only [e]
    go_simp
end
theorem law_cell {fn : Func} {q : Tmp} {n r : Nat} {p : Pay} {l : Fo} (hres : fn.results = #[.cell q 24]) {R : Ending → World → Prop} {a : Act} {w : World} (hq : (Kd.sat (rC n r p l)).R (a.tmps.getD q undef) w) (hd : a.defers = []) (hR : ∀ A c, ArgsIn (Ns n (some r) w) w A (Tm.len l) l → R (.returned (tv p A (Tm.len l) c)) w) : bodyPost Try.prog fn R .ret a w := by
  obtain ⟨e, _, _, A, c, ht, ha⟩ := hq
  refine bodyPost_ret (v := tv p A (Tm.len l) c) ?_ hd (hR A c ha)
  have hp' : a.tmps[q]?.getD undef = .pointer (some ⟨r, 0, none⟩) := by simpa using e
  simp [results, hres, hp', asAddr, load_cellT w r p A (Tm.len l) c ht]
theorem law_cb {fn : Func} {q u : Tmp} {n r : Nat} {p : Pay} {l : Fo} {vu : Value} (hres : fn.results = #[.cell q 24, .tmp u]) {R : Ending → World → Prop} {a : Act} {w : World} (hzu : (Kd.val vu).R (a.tmps.getD u undef) w) (hq : (Kd.sat (rC n r p l)).R (a.tmps.getD q undef) w) (hd : a.defers = []) (hR : ∀ A c, ArgsIn (Ns n (some r) w) w A (Tm.len l) l → R (.returned (.tuple #[tv p A (Tm.len l) c, vu])) w) : bodyPost Try.prog fn R .ret a w := by
  obtain ⟨e, _, _, A, c, ht, ha⟩ := hq
  refine bodyPost_ret (v := .tuple #[tv p A (Tm.len l) c, vu]) ?_ hd (hR A c ha)
  have hp' : a.tmps[q]?.getD undef = .pointer (some ⟨r, 0, none⟩) := by simpa using e
  have hxu : a.tmps[u]?.getD undef = vu := by simpa using (show a.tmps.getD u undef = vu from hzu)
  simp [results, hres, hp', hxu, asAddr, load_cellT w r p A (Tm.len l) c ht]
theorem law_xcb {fn : Func} {q s u : Tmp} {n r : Nat} {p : Pay} {l : Fo} {vs vu : Value} (hres : fn.results = #[.tmp s, .cell q 24, .tmp u]) {R : Ending → World → Prop} {a : Act} {w : World} (hzs : (Kd.val vs).R (a.tmps.getD s undef) w) (hzu : (Kd.val vu).R (a.tmps.getD u undef) w) (hq : (Kd.sat (rC n r p l)).R (a.tmps.getD q undef) w) (hd : a.defers = []) (hR : ∀ A c, ArgsIn (Ns n (some r) w) w A (Tm.len l) l → R (.returned (.tuple #[vs, tv p A (Tm.len l) c, vu])) w) : bodyPost Try.prog fn R .ret a w := by
  obtain ⟨e, _, _, A, c, ht, ha⟩ := hq
  refine bodyPost_ret (v := .tuple #[vs, tv p A (Tm.len l) c, vu]) ?_ hd (hR A c ha)
  have hp' : a.tmps[q]?.getD undef = .pointer (some ⟨r, 0, none⟩) := by simpa using e
  have hxs : a.tmps[s]?.getD undef = vs := by simpa using (show a.tmps.getD s undef = vs from hzs)
  have hxu : a.tmps[u]?.getD undef = vu := by simpa using (show a.tmps.getD u undef = vu from hzu)
  simp [results, hres, hp', hxs, hxu, asAddr, load_cellT w r p A (Tm.len l) c ht]
theorem law_xxcb {fn : Func} {q s t u : Tmp} {n r : Nat} {p : Pay} {l : Fo} {vs vt vu : Value} (hres : fn.results = #[.tmp s, .tmp t, .cell q 24, .tmp u]) {R : Ending → World → Prop} {a : Act} {w : World} (hzs : (Kd.val vs).R (a.tmps.getD s undef) w) (hzt : (Kd.val vt).R (a.tmps.getD t undef) w) (hzu : (Kd.val vu).R (a.tmps.getD u undef) w) (hq : (Kd.sat (rC n r p l)).R (a.tmps.getD q undef) w) (hd : a.defers = []) (hR : ∀ A c, ArgsIn (Ns n (some r) w) w A (Tm.len l) l → R (.returned (.tuple #[vs, vt, tv p A (Tm.len l) c, vu])) w) : bodyPost Try.prog fn R .ret a w := by
  obtain ⟨e, _, _, A, c, ht, ha⟩ := hq
  refine bodyPost_ret (v := .tuple #[vs, vt, tv p A (Tm.len l) c, vu]) ?_ hd (hR A c ha)
  have hp' : a.tmps[q]?.getD undef = .pointer (some ⟨r, 0, none⟩) := by simpa using e
  have hxs : a.tmps[s]?.getD undef = vs := by simpa using (show a.tmps.getD s undef = vs from hzs)
  have hxt : a.tmps[t]?.getD undef = vt := by simpa using (show a.tmps.getD t undef = vt from hzt)
  have hxu : a.tmps[u]?.getD undef = vu := by simpa using (show a.tmps.getD u undef = vu from hzu)
  simp [results, hres, hp', hxs, hxt, hxu, asAddr, load_cellT w r p A (Tm.len l) c ht]
theorem law_lcb {fn : Func} {q s u : Tmp} {n r : Nat} {p : Pay} {l F : Fo} {vu : Value} (hres : fn.results = #[.tmp s, .cell q 24, .tmp u]) {R : Ending → World → Prop} {a : Act} {w : World} (hs : (Kd.sat (nR n (some r) F)).R (a.tmps.getD s undef) w) (hq : (Kd.sat (rC n r p l)).R (a.tmps.getD q undef) w) (hu : (Kd.val vu).R (a.tmps.getD u undef) w) (hd : a.defers = []) (hR : ∀ A c A' c', ArgsIn (Ns n (some r) w) w A (Tm.len l) l → ArgsIn (Ns n (some r) w) w A' (Tm.len F) F → R (.returned (.tuple #[.slice A' (Tm.len F) c', tv p A (Tm.len l) c, vu])) w) : bodyPost Try.prog fn R .ret a w := by
  obtain ⟨e, _, _, A, c, ht, ha⟩ := hq
  obtain ⟨A', c', e', ha'⟩ := hs
  exact law_xcb hres (vs := .slice A' (Tm.len F) c') e' hu ⟨e, ‹_›, ‹_›, A, c, ht, ha⟩ hd fun A c ha => hR A c A' c' ha ha'
end Go.Proofs.Ytapcnehpechkpaa
