/-
  BallsShape: the region that makes the five error terms and chooses one.
-/
import Derived.Test.YtapcnehpechkpaaFormalS
import Derived.Test.YtapcnehpechkpaaResD
import Derived.Test.YtapcnehpechkpaaAwake6
namespace Go.Proofs.Ytapcnehpechkpaa
set_option linter.unusedVariables false
set_option linter.unusedSimpArgs false
set_option maxRecDepth 100000
open Go.RowKit
theorem turns_nS (r n : Nat) (p : Pay) (l : Fo) : Turns r (.sat (nS n none p l)) (.sat (nS n (some r) p l)) := by
  rintro v w o hr ⟨A, c, e, h⟩
  refine ⟨A, c, e, (h.keep fun b hb => Below.heap_alloc w o b hb.1.2.1).mono fun b hb => ⟨⟨hb.1.1, by rw [World.size_alloc]; have := hb.1.2.1; omega, fun e => by injection e with e; have := hb.1.2.1; omega⟩, hb.2.same (Below.heap_alloc w o b hb.1.2.1)⟩⟩
theorem turns_nS2 (r n : Nat) (p : Pay) (l : Fo) : Turns r (.term p l) (.sat (nT 0 (some r) p l)) := turns_term r p l
theorem NsS.keep {n k : Nat} {G : Option Nat} {w w' : World} {A : Option Addr} {F : Fo} (h : ArgsIn (NsS n G w) w A k F) (hb : Below w.heap.size w w') : ArgsIn (NsS n G w') w' A k F :=
  (h.keep fun b hb' => hb.block b hb'.1.2.1).mono fun b hb' => ⟨⟨hb'.1.1, Nat.lt_of_lt_of_le hb'.1.2.1 hb.size, hb'.1.2.2⟩, hb'.2.same (hb.block b hb'.1.2.1)⟩
theorem NsS.turn {n k : Nat} {w : World} {A : Option Addr} {F : Fo} (r : Nat) (o : Obj) (hr : w.heap.size = r) (h : ArgsIn (NsS n none w) w A k F) : ArgsIn (NsS n (some r) (w.alloc o)) (w.alloc o) A k F :=
  (h.keep fun b hb => Below.heap_alloc w o b hb.1.2.1).mono fun b hb => ⟨⟨hb.1.1, by rw [World.size_alloc]; have := hb.1.2.1; omega, fun e => by injection e with e; have := hb.1.2.1; omega⟩, hb.2.same (Below.heap_alloc w o b hb.1.2.1)⟩
/-- Five such terms, as an array. -/
def aS (n : Nat) (G : Option Nat) (T : List (Pay × Fo)) : Pd where
  R := fun v w => ∃ A0 c0 A1 c1 A2 c2 A3 c3 A4 c4, ∃ p0 p1 p2 p3 p4 : Pay × Fo, v = .agg #[.int .i64 p0.1.1, .int .i64 p0.1.2.1, .string p0.1.2.2, .slice A0 (Tm.len p0.2) c0, .int .i64 p1.1.1, .int .i64 p1.1.2.1, .string p1.1.2.2, .slice A1 (Tm.len p1.2) c1, .int .i64 p2.1.1, .int .i64 p2.1.2.1, .string p2.1.2.2, .slice A2 (Tm.len p2.2) c2, .int .i64 p3.1.1, .int .i64 p3.1.2.1, .string p3.1.2.2, .slice A3 (Tm.len p3.2) c3, .int .i64 p4.1.1, .int .i64 p4.1.2.1, .string p4.1.2.2, .slice A4 (Tm.len p4.2) c4] ∧ T = [p0, p1, p2, p3, p4] ∧ ArgsIn (NsS n G w) w A0 (Tm.len p0.2) p0.2 ∧ ArgsIn (NsS n G w) w A1 (Tm.len p1.2) p1.2 ∧ ArgsIn (NsS n G w) w A2 (Tm.len p2.2) p2.2 ∧ ArgsIn (NsS n G w) w A3 (Tm.len p3.2) p3.2 ∧ ArgsIn (NsS n G w) w A4 (Tm.len p4.2) p4.2
  keep := by
    rintro v w w' ⟨A0, c0, A1, c1, A2, c2, A3, c3, A4, c4, p0, p1, p2, p3, p4, e, e', h0, h1, h2, h3, h4⟩ hb
    exact ⟨A0, c0, A1, c1, A2, c2, A3, c3, A4, c4, p0, p1, p2, p3, p4, e, e', NsS.keep h0 hb, NsS.keep h1 hb, NsS.keep h2 hb, NsS.keep h3 hb, NsS.keep h4 hb⟩
theorem turns_aS (r n : Nat) (T : List (Pay × Fo)) : Turns r (.sat (aS n none T)) (.sat (aS n (some r) T)) := by
  rintro v w o hr ⟨A0, c0, A1, c1, A2, c2, A3, c3, A4, c4, p0, p1, p2, p3, p4, e, e', h0, h1, h2, h3, h4⟩
  exact ⟨A0, c0, A1, c1, A2, c2, A3, c3, A4, c4, p0, p1, p2, p3, p4, e, e', NsS.turn r o hr h0, NsS.turn r o hr h1, NsS.turn r o hr h2, NsS.turn r o hr h3, NsS.turn r o hr h4⟩
/-- Such a value, and which one it is. -/
def pX (k : Kd) (x : Value) : Pd where
  R := fun v w => v = x ∧ k.R v w
  keep := by rintro v w w' ⟨e, h⟩ hb; exact ⟨e, Kd.keep h hb⟩
theorem turns_pX {r : Nat} {k k' : Kd} (x : Value) (h : Turns r k k') : Turns r (.sat (pX k x)) (.sat (pX k' x)) := fun v w o hr ⟨e, hk⟩ => ⟨e, h v w o hr hk⟩
theorem away_pX {r : Nat} {k : Kd} (x : Value) (h : Away r k) : Away r (.sat (pX k x)) := fun v w w' hw ⟨e, hk⟩ => ⟨e, h v w w' hw hk⟩
section
variable {ops : Array Oper} {Q : Exit → Act → World → Prop} {E : Nat → Kd} {D : Nat → Nat} {base : Nat → Option Kd} {N : Nat}
theorem Opd.ofX {i : Nat} {x : Operand} {k : Kd} {v : Value} (h : Opd ops E D base N i x (.sat (pX k v))) : Opd ops E D base N i x k := fun a w hc => (h a w hc).2
theorem step_build5 {i n : Nat} {G : Option Nat} {x0 x1 x2 x3 x4 : Operand} {p0 p1 p2 p3 p4 : Pay × Fo} (hop : (ops[i]?).map (·.op) = some (.build 49 #[(0, x0), (1, x1), (2, x2), (3, x3), (4, x4)]))
    (h0 : Opd ops E D base N i x0 (.sat (nS n G p0.1 p0.2))) (h1 : Opd ops E D base N i x1 (.sat (nS n G p1.1 p1.2))) (h2 : Opd ops E D base N i x2 (.sat (nS n G p2.1 p2.2))) (h3 : Opd ops E D base N i x3 (.sat (nS n G p3.1 p3.2))) (h4 : Opd ops E D base N i x4 (.sat (nS n G p4.1 p4.2)))
    (hE : E i = .sat (aS n G [p0, p1, p2, p3, p4])) : Step Try.prog ops Q E D base N i :=
  step_still hop hE fun a w h dst ty' pos after guard => by
    obtain ⟨A0, c0, e0, k0⟩ := h0 a w h
    obtain ⟨A1, c1, e1, k1⟩ := h1 a w h
    obtain ⟨A2, c2, e2, k2⟩ := h2 a w h
    obtain ⟨A3, c3, e3, k3⟩ := h3 a w h
    obtain ⟨A4, c4, e4, k4⟩ := h4 a w h
    refine ⟨.agg #[.int .i64 p0.1.1, .int .i64 p0.1.2.1, .string p0.1.2.2, .slice A0 (Tm.len p0.2) c0, .int .i64 p1.1.1, .int .i64 p1.1.2.1, .string p1.1.2.2, .slice A1 (Tm.len p1.2) c1, .int .i64 p2.1.1, .int .i64 p2.1.2.1, .string p2.1.2.2, .slice A2 (Tm.len p2.2) c2, .int .i64 p3.1.1, .int .i64 p3.1.2.1, .string p3.1.2.2, .slice A3 (Tm.len p3.2) c3, .int .i64 p4.1.1, .int .i64 p4.1.2.1, .string p4.1.2.2, .slice A4 (Tm.len p4.2) c4], ?_, A0, c0, A1, c1, A2, c2, A3, c3, A4, c4, p0, p1, p2, p3, p4, rfl, rfl, k0, k1, k2, k3, k4⟩
    generalize Tm.len p0.2 = m0 at e0
    generalize Tm.len p1.2 = m1 at e1
    generalize Tm.len p2.2 = m2 at e2
    generalize Tm.len p3.2 = m3 at e3
    generalize Tm.len p4.2 = m4 at e4
    unfold execOp
    simp only [List.map_toArray, List.map_cons, List.map_nil, e0, e1, e2, e3, e4]
    go_simp
    try rfl
theorem step_index5 {i n k : Nat} {G : Option Nat} {x y : Operand} {T : List (Pay × Fo)} {q : Pay × Fo} (hop : (ops[i]?).map (·.op) = some (.index 49 x y)) (hx : Opd ops E D base N i x (.sat (aS n G T))) (hy : Opd ops E D base N i y (.val (.int .i64 k))) (hq : T[k]? = some q)
    (hE : E i = .sat (nS n G q.1 q.2)) : Step Try.prog ops Q E D base N i :=
  step_still hop hE fun a w h dst ty' pos after guard => by
    obtain ⟨A0, c0, A1, c1, A2, c2, A3, c3, A4, c4, p0, p1, p2, p3, p4, e, e', h0, h1, h2, h3, h4⟩ := hx a w h
    subst e'
    have ey : a.eval y = .int .i64 k := hy a w h
    have hk : k < 5 := by
      rcases Nat.lt_or_ge k 5 with h | h
      · exact h
      · rw [List.getElem?_eq_none (by simpa using h)] at hq; cases hq
    match k, hk, hq, ey with
    | 0, _, hq, ey =>
      cases hq
      refine ⟨tv q.1 A0 (Tm.len q.2) c0, ?_, A0, c0, rfl, h0⟩
      unfold execOp
      simp only [e, ey]
      go_simp
      try rfl
    | 1, _, hq, ey =>
      cases hq
      refine ⟨tv q.1 A1 (Tm.len q.2) c1, ?_, A1, c1, rfl, h1⟩
      unfold execOp
      simp only [e, ey]
      go_simp
      try rfl
    | 2, _, hq, ey =>
      cases hq
      refine ⟨tv q.1 A2 (Tm.len q.2) c2, ?_, A2, c2, rfl, h2⟩
      unfold execOp
      simp only [e, ey]
      go_simp
      try rfl
    | 3, _, hq, ey =>
      cases hq
      refine ⟨tv q.1 A3 (Tm.len q.2) c3, ?_, A3, c3, rfl, h3⟩
      unfold execOp
      simp only [e, ey]
      go_simp
      try rfl
    | 4, _, hq, ey =>
      cases hq
      refine ⟨tv q.1 A4 (Tm.len q.2) c4, ?_, A4, c4, rfl, h4⟩
      unfold execOp
      simp only [e, ey]
      go_simp
      try rfl
theorem step_mkS {i f n g : Nat} {G : Option Nat} {xs : Array Operand} {tys : Array TypeId} {p : Pay} {l : Fo} (hop : (ops[i]?).map (·.op) = some (.call { callee := .value (.func f), args := xs, argTypes := tys })) (he : ∀ (args : Array Value) (w : World), (callFunc f args).run Try.prog w = .ok (.enter f args) w)
    (hg : Opd ops E D base N i (.tmp g) (.sat (gP n G))) (hc : ∀ a w, Ctx ops E D base N i a w → Calls Try.prog f (xs.map a.eval) w (MakesS p l w)) (hE : E i = .sat (nS n G p l)) : Step Try.prog ops Q E D base N i :=
  step_call hop he fun a w h => (hc a w h).mono fun e w' ⟨A, c, he, ha, hb⟩ => ⟨_, he, by rw [hE]; exact ⟨A, c, rfl, ha.mono fun b hb' => ⟨ns_new (hg a w h) hb'.1 hb'.2.1, hb'.2.2⟩⟩, hb⟩
theorem step_sUn {i n g : Nat} {G : Option Nat} {x0 : Operand} {p0 : Pay} {l0 : Fo} (hop : (ops[i]?).map (·.op) = some (.call { callee := .value (.func 13), args := #[x0], argTypes := #[24] })) (h0 : Opd ops E D base N i x0 (.term p0 l0)) (hg : Opd ops E D base N i (.tmp g) (.sat (gP n G))) (hE : E i = .sat (nS n G (Bl.un p0 l0).1 (Bl.un p0 l0).2)) : Step Try.prog ops Q E D base N i :=
  step_mkS hop (fun _ _ => by kernel_rfl) hg (fun a w h => by
    obtain ⟨A0, c0, e0, ha0⟩ := h0 a w h
    rw [show (#[x0] : Array Operand).map a.eval = #[tv p0 A0 (Tm.len l0) c0] by rw [← e0]; simp]
    exact sUn_any p0 l0 A0 c0 w.heap.size w ha0 (Nat.le_refl _)) hE
theorem step_sPerm {i n g : Nat} {G : Option Nat} {x0 x1 x2 : Operand} {s0 s1 : ByteArray} {p2 : Pay} {l2 : Fo} (hop : (ops[i]?).map (·.op) = some (.call { callee := .value (.func 17), args := #[x0, x1, x2], argTypes := #[9, 9, 24] })) (h0 : Opd ops E D base N i x0 (.val (.string s0))) (h1 : Opd ops E D base N i x1 (.val (.string s1))) (h2 : Opd ops E D base N i x2 (.term p2 l2)) (hg : Opd ops E D base N i (.tmp g) (.sat (gP n G))) (hE : E i = .sat (nS n G (Bl.perm s0 s1 p2 l2).1 (Bl.perm s0 s1 p2 l2).2)) : Step Try.prog ops Q E D base N i :=
  step_mkS hop (fun _ _ => by kernel_rfl) hg (fun a w h => by
    have e0 : a.eval x0 = .string s0 := h0 a w h
    have e1 : a.eval x1 = .string s1 := h1 a w h
    obtain ⟨A2, c2, e2, ha2⟩ := h2 a w h
    rw [show (#[x0, x1, x2] : Array Operand).map a.eval = #[.string s0, .string s1, tv p2 A2 (Tm.len l2) c2] by rw [← e0, ← e1, ← e2]; simp]
    exact sPerm_any s0 s1 p2 l2 A2 c2 w.heap.size w ha2 (Nat.le_refl _)) hE
theorem step_sTy {i n g : Nat} {G : Option Nat} {x0 x1 : Operand} {s0 : ByteArray} {p1 : Pay} {l1 : Fo} (hop : (ops[i]?).map (·.op) = some (.call { callee := .value (.func 14), args := #[x0, x1], argTypes := #[9, 24] })) (h0 : Opd ops E D base N i x0 (.val (.string s0))) (h1 : Opd ops E D base N i x1 (.term p1 l1)) (hg : Opd ops E D base N i (.tmp g) (.sat (gP n G))) (hE : E i = .sat (nS n G (Bl.ty s0 p1 l1).1 (Bl.ty s0 p1 l1).2)) : Step Try.prog ops Q E D base N i :=
  step_mkS hop (fun _ _ => by kernel_rfl) hg (fun a w h => by
    have e0 : a.eval x0 = .string s0 := h0 a w h
    obtain ⟨A1, c1, e1, ha1⟩ := h1 a w h
    rw [show (#[x0, x1] : Array Operand).map a.eval = #[.string s0, tv p1 A1 (Tm.len l1) c1] by rw [← e0, ← e1]; simp]
    exact sTy_any s0 p1 l1 A1 c1 w.heap.size w ha1 (Nat.le_refl _)) hE
theorem step_sDom {i n g : Nat} {G : Option Nat} {x0 x1 : Operand} {s0 : ByteArray} {p1 : Pay} {l1 : Fo} (hop : (ops[i]?).map (·.op) = some (.call { callee := .value (.func 15), args := #[x0, x1], argTypes := #[9, 24] })) (h0 : Opd ops E D base N i x0 (.val (.string s0))) (h1 : Opd ops E D base N i x1 (.term p1 l1)) (hg : Opd ops E D base N i (.tmp g) (.sat (gP n G))) (hE : E i = .sat (nS n G (Bl.dom s0 p1 l1).1 (Bl.dom s0 p1 l1).2)) : Step Try.prog ops Q E D base N i :=
  step_mkS hop (fun _ _ => by kernel_rfl) hg (fun a w h => by
    have e0 : a.eval x0 = .string s0 := h0 a w h
    obtain ⟨A1, c1, e1, ha1⟩ := h1 a w h
    rw [show (#[x0, x1] : Array Operand).map a.eval = #[.string s0, tv p1 A1 (Tm.len l1) c1] by rw [← e0, ← e1]; simp]
    exact sDom_any s0 p1 l1 A1 c1 w.heap.size w ha1 (Nat.le_refl _)) hE
theorem step_sExt {i n g : Nat} {G : Option Nat} {x0 x1 : Operand} {s0 : ByteArray} {p1 : Pay} {l1 : Fo} (hop : (ops[i]?).map (·.op) = some (.call { callee := .value (.func 16), args := #[x0, x1], argTypes := #[9, 24] })) (h0 : Opd ops E D base N i x0 (.val (.string s0))) (h1 : Opd ops E D base N i x1 (.term p1 l1)) (hg : Opd ops E D base N i (.tmp g) (.sat (gP n G))) (hE : E i = .sat (nS n G (Bl.ext s0 p1 l1).1 (Bl.ext s0 p1 l1).2)) : Step Try.prog ops Q E D base N i :=
  step_mkS hop (fun _ _ => by kernel_rfl) hg (fun a w h => by
    have e0 : a.eval x0 = .string s0 := h0 a w h
    obtain ⟨A1, c1, e1, ha1⟩ := h1 a w h
    rw [show (#[x0, x1] : Array Operand).map a.eval = #[.string s0, tv p1 A1 (Tm.len l1) c1] by rw [← e0, ← e1]; simp]
    exact sExt_any s0 p1 l1 A1 c1 w.heap.size w ha1 (Nat.le_refl _)) hE
end
noncomputable def sh8Ops : Array Oper := ((Try.f7.body).bind (findReg 8)).getD #[]
def sh8Es (s0 s1 : ByteArray) (p : Pay) (l : Fo) (nb k : Nat) (q : Pay × Fo) (v5 v7 v9 : Value) (x : Nat → Value) : List Kd := [.term p l, .sat (nS nb none (Bl.un p l).1 (Bl.un p l).2), .val (.string s0), .term p l, .sat (nS nb none (Bl.ty s0 p l).1 (Bl.ty s0 p l).2), .val (.string s0), .term p l, .sat (nS nb none (Bl.dom s0 p l).1 (Bl.dom s0 p l).2), .val (.string s0), .term p l, .sat (nS nb none (Bl.ext s0 p l).1 (Bl.ext s0 p l).2), .val (.string s1), .val (.string s0), .term p l, .sat (nS nb none (Bl.perm s1 s0 p l).1 (Bl.perm s1 s0 p l).2), .sat (aS nb none [Bl.un p l, Bl.ty s0 p l, Bl.dom s0 p l, Bl.ext s0 p l, Bl.perm s1 s0 p l]), .val (.int .i64 k), .sat (nS nb none q.1 q.2), .any]
def sh8Es2 (s0 s1 : ByteArray) (p : Pay) (l : Fo) (nb k : Nat) (q : Pay × Fo) (v5 v7 v9 : Value) (x : Nat → Value) (r : Nat) : List Kd := [.sat (nT 0 (some r) p l), .sat (nS nb (some r) (Bl.un p l).1 (Bl.un p l).2), .val (.string s0), .sat (nT 0 (some r) p l), .sat (nS nb (some r) (Bl.ty s0 p l).1 (Bl.ty s0 p l).2), .val (.string s0), .sat (nT 0 (some r) p l), .sat (nS nb (some r) (Bl.dom s0 p l).1 (Bl.dom s0 p l).2), .val (.string s0), .sat (nT 0 (some r) p l), .sat (nS nb (some r) (Bl.ext s0 p l).1 (Bl.ext s0 p l).2), .val (.string s1), .val (.string s0), .sat (nT 0 (some r) p l), .sat (nS nb (some r) (Bl.perm s1 s0 p l).1 (Bl.perm s1 s0 p l).2), .sat (aS nb (some r) [Bl.un p l, Bl.ty s0 p l, Bl.dom s0 p l, Bl.ext s0 p l, Bl.perm s1 s0 p l]), .val (.int .i64 k), .sat (nS nb (some r) q.1 q.2), .any]
def sh8Ds : List Nat := [40, 41, 42, 43, 44, 45, 46, 47, 48, 49, 50, 51, 52, 53, 54, 55, 56, 57, 10]
def sh8Env (s0 s1 : ByteArray) (p : Pay) (l : Fo) (nb k : Nat) (q : Pay × Fo) (v5 v7 v9 : Value) (x : Nat → Value) : Env := [(0, .val (.string s0)), (1, .val (.string s1)), (5, .sat (pX (.ptrT p l) v5)), (7, .val v7), (9, .val v9), (8, .val (.int .i64 k)), (2, .val (x 2)), (3, .val (x 3)), (4, .val (x 4)), (17, .val (x 17)), (18, .val (x 18)), (19, .val (x 19)), (20, .val (x 20)), (21, .val (x 21)), (22, .val (x 22)), (23, .val (x 23)), (24, .val (x 24)), (25, .val (x 25)), (26, .val (x 26)), (27, .val (x 27)), (28, .val (x 28)), (29, .val (x 29)), (30, .val (x 30)), (31, .val (x 31)), (32, .val (x 32)), (193, .val (x 193)), (990, .sat (gP nb none))]
def sh8Env2 (s0 s1 : ByteArray) (p : Pay) (l : Fo) (nb k : Nat) (q : Pay × Fo) (v5 v7 v9 : Value) (x : Nat → Value) (r : Nat) : Env := [(0, .val (.string s0)), (1, .val (.string s1)), (5, .sat (pX (.sat (nP 0 (some r) p l)) v5)), (7, .val v7), (9, .val v9), (8, .val (.int .i64 k)), (2, .val (x 2)), (3, .val (x 3)), (4, .val (x 4)), (17, .val (x 17)), (18, .val (x 18)), (19, .val (x 19)), (20, .val (x 20)), (21, .val (x 21)), (22, .val (x 22)), (23, .val (x 23)), (24, .val (x 24)), (25, .val (x 25)), (26, .val (x 26)), (27, .val (x 27)), (28, .val (x 28)), (29, .val (x 29)), (30, .val (x 30)), (31, .val (x 31)), (32, .val (x 32)), (193, .val (x 193)), (990, .sat (gP nb (some r)))]
theorem sh8a_0 {Q : Exit → Act → World → Prop} (s0 s1 : ByteArray) (p : Pay) (l : Fo) (nb k : Nat) (q : Pay × Fo) (v5 v7 v9 : Value) (x : Nat → Value) (hq : [Bl.un p l, Bl.ty s0 p l, Bl.dom s0 p l, Bl.ext s0 p l, Bl.perm s1 s0 p l][k]? = some q) : RStep (strip sh8Ops) Q (fun i => ((sh8Es s0 s1 p l nb k q v5 v7 v9 x)[i]?).getD .any) (fun i => (sh8Ds[i]?).getD (1000 + i)) (look (sh8Env s0 s1 p l nb k q v5 v7 v9 x)) 194 0 := fun _ => step_load_term (by kernel_rfl) (Opd.ofX (Opd.of_base 5 rfl)) rfl
theorem sh8a_1 {Q : Exit → Act → World → Prop} (s0 s1 : ByteArray) (p : Pay) (l : Fo) (nb k : Nat) (q : Pay × Fo) (v5 v7 v9 : Value) (x : Nat → Value) (hq : [Bl.un p l, Bl.ty s0 p l, Bl.dom s0 p l, Bl.ext s0 p l, Bl.perm s1 s0 p l][k]? = some q) : RStep (strip sh8Ops) Q (fun i => ((sh8Es s0 s1 p l nb k q v5 v7 v9 x)[i]?).getD .any) (fun i => (sh8Ds[i]?).getD (1000 + i)) (look (sh8Env s0 s1 p l nb k q v5 v7 v9 x)) 194 1 := fun _ => step_sUn (g := 990) (by kernel_rfl) (Opd.dep 0 rfl rfl (by kernel_rfl)) (Opd.of_base 990 rfl) rfl
theorem sh8a_2 {Q : Exit → Act → World → Prop} (s0 s1 : ByteArray) (p : Pay) (l : Fo) (nb k : Nat) (q : Pay × Fo) (v5 v7 v9 : Value) (x : Nat → Value) (hq : [Bl.un p l, Bl.ty s0 p l, Bl.dom s0 p l, Bl.ext s0 p l, Bl.perm s1 s0 p l][k]? = some q) : RStep (strip sh8Ops) Q (fun i => ((sh8Es s0 s1 p l nb k q v5 v7 v9 x)[i]?).getD .any) (fun i => (sh8Ds[i]?).getD (1000 + i)) (look (sh8Env s0 s1 p l nb k q v5 v7 v9 x)) 194 2 := fun _ => step_move (by kernel_rfl) (Opd.of_base 0 rfl) rfl
theorem sh8a_3 {Q : Exit → Act → World → Prop} (s0 s1 : ByteArray) (p : Pay) (l : Fo) (nb k : Nat) (q : Pay × Fo) (v5 v7 v9 : Value) (x : Nat → Value) (hq : [Bl.un p l, Bl.ty s0 p l, Bl.dom s0 p l, Bl.ext s0 p l, Bl.perm s1 s0 p l][k]? = some q) : RStep (strip sh8Ops) Q (fun i => ((sh8Es s0 s1 p l nb k q v5 v7 v9 x)[i]?).getD .any) (fun i => (sh8Ds[i]?).getD (1000 + i)) (look (sh8Env s0 s1 p l nb k q v5 v7 v9 x)) 194 3 := fun _ => step_load_term (by kernel_rfl) (Opd.ofX (Opd.of_base 5 rfl)) rfl
theorem sh8a_4 {Q : Exit → Act → World → Prop} (s0 s1 : ByteArray) (p : Pay) (l : Fo) (nb k : Nat) (q : Pay × Fo) (v5 v7 v9 : Value) (x : Nat → Value) (hq : [Bl.un p l, Bl.ty s0 p l, Bl.dom s0 p l, Bl.ext s0 p l, Bl.perm s1 s0 p l][k]? = some q) : RStep (strip sh8Ops) Q (fun i => ((sh8Es s0 s1 p l nb k q v5 v7 v9 x)[i]?).getD .any) (fun i => (sh8Ds[i]?).getD (1000 + i)) (look (sh8Env s0 s1 p l nb k q v5 v7 v9 x)) 194 4 := fun _ => step_sTy (g := 990) (by kernel_rfl) (Opd.dep 2 rfl rfl (by kernel_rfl)) (Opd.dep 3 rfl rfl (by kernel_rfl)) (Opd.of_base 990 rfl) rfl
theorem sh8a_5 {Q : Exit → Act → World → Prop} (s0 s1 : ByteArray) (p : Pay) (l : Fo) (nb k : Nat) (q : Pay × Fo) (v5 v7 v9 : Value) (x : Nat → Value) (hq : [Bl.un p l, Bl.ty s0 p l, Bl.dom s0 p l, Bl.ext s0 p l, Bl.perm s1 s0 p l][k]? = some q) : RStep (strip sh8Ops) Q (fun i => ((sh8Es s0 s1 p l nb k q v5 v7 v9 x)[i]?).getD .any) (fun i => (sh8Ds[i]?).getD (1000 + i)) (look (sh8Env s0 s1 p l nb k q v5 v7 v9 x)) 194 5 := fun _ => step_move (by kernel_rfl) (Opd.of_base 0 rfl) rfl
theorem sh8a_6 {Q : Exit → Act → World → Prop} (s0 s1 : ByteArray) (p : Pay) (l : Fo) (nb k : Nat) (q : Pay × Fo) (v5 v7 v9 : Value) (x : Nat → Value) (hq : [Bl.un p l, Bl.ty s0 p l, Bl.dom s0 p l, Bl.ext s0 p l, Bl.perm s1 s0 p l][k]? = some q) : RStep (strip sh8Ops) Q (fun i => ((sh8Es s0 s1 p l nb k q v5 v7 v9 x)[i]?).getD .any) (fun i => (sh8Ds[i]?).getD (1000 + i)) (look (sh8Env s0 s1 p l nb k q v5 v7 v9 x)) 194 6 := fun _ => step_load_term (by kernel_rfl) (Opd.ofX (Opd.of_base 5 rfl)) rfl
theorem sh8a_7 {Q : Exit → Act → World → Prop} (s0 s1 : ByteArray) (p : Pay) (l : Fo) (nb k : Nat) (q : Pay × Fo) (v5 v7 v9 : Value) (x : Nat → Value) (hq : [Bl.un p l, Bl.ty s0 p l, Bl.dom s0 p l, Bl.ext s0 p l, Bl.perm s1 s0 p l][k]? = some q) : RStep (strip sh8Ops) Q (fun i => ((sh8Es s0 s1 p l nb k q v5 v7 v9 x)[i]?).getD .any) (fun i => (sh8Ds[i]?).getD (1000 + i)) (look (sh8Env s0 s1 p l nb k q v5 v7 v9 x)) 194 7 := fun _ => step_sDom (g := 990) (by kernel_rfl) (Opd.dep 5 rfl rfl (by kernel_rfl)) (Opd.dep 6 rfl rfl (by kernel_rfl)) (Opd.of_base 990 rfl) rfl
theorem sh8a_8 {Q : Exit → Act → World → Prop} (s0 s1 : ByteArray) (p : Pay) (l : Fo) (nb k : Nat) (q : Pay × Fo) (v5 v7 v9 : Value) (x : Nat → Value) (hq : [Bl.un p l, Bl.ty s0 p l, Bl.dom s0 p l, Bl.ext s0 p l, Bl.perm s1 s0 p l][k]? = some q) : RStep (strip sh8Ops) Q (fun i => ((sh8Es s0 s1 p l nb k q v5 v7 v9 x)[i]?).getD .any) (fun i => (sh8Ds[i]?).getD (1000 + i)) (look (sh8Env s0 s1 p l nb k q v5 v7 v9 x)) 194 8 := fun _ => step_move (by kernel_rfl) (Opd.of_base 0 rfl) rfl
theorem sh8a_9 {Q : Exit → Act → World → Prop} (s0 s1 : ByteArray) (p : Pay) (l : Fo) (nb k : Nat) (q : Pay × Fo) (v5 v7 v9 : Value) (x : Nat → Value) (hq : [Bl.un p l, Bl.ty s0 p l, Bl.dom s0 p l, Bl.ext s0 p l, Bl.perm s1 s0 p l][k]? = some q) : RStep (strip sh8Ops) Q (fun i => ((sh8Es s0 s1 p l nb k q v5 v7 v9 x)[i]?).getD .any) (fun i => (sh8Ds[i]?).getD (1000 + i)) (look (sh8Env s0 s1 p l nb k q v5 v7 v9 x)) 194 9 := fun _ => step_load_term (by kernel_rfl) (Opd.ofX (Opd.of_base 5 rfl)) rfl
theorem sh8a_10 {Q : Exit → Act → World → Prop} (s0 s1 : ByteArray) (p : Pay) (l : Fo) (nb k : Nat) (q : Pay × Fo) (v5 v7 v9 : Value) (x : Nat → Value) (hq : [Bl.un p l, Bl.ty s0 p l, Bl.dom s0 p l, Bl.ext s0 p l, Bl.perm s1 s0 p l][k]? = some q) : RStep (strip sh8Ops) Q (fun i => ((sh8Es s0 s1 p l nb k q v5 v7 v9 x)[i]?).getD .any) (fun i => (sh8Ds[i]?).getD (1000 + i)) (look (sh8Env s0 s1 p l nb k q v5 v7 v9 x)) 194 10 := fun _ => step_sExt (g := 990) (by kernel_rfl) (Opd.dep 8 rfl rfl (by kernel_rfl)) (Opd.dep 9 rfl rfl (by kernel_rfl)) (Opd.of_base 990 rfl) rfl
theorem sh8a_11 {Q : Exit → Act → World → Prop} (s0 s1 : ByteArray) (p : Pay) (l : Fo) (nb k : Nat) (q : Pay × Fo) (v5 v7 v9 : Value) (x : Nat → Value) (hq : [Bl.un p l, Bl.ty s0 p l, Bl.dom s0 p l, Bl.ext s0 p l, Bl.perm s1 s0 p l][k]? = some q) : RStep (strip sh8Ops) Q (fun i => ((sh8Es s0 s1 p l nb k q v5 v7 v9 x)[i]?).getD .any) (fun i => (sh8Ds[i]?).getD (1000 + i)) (look (sh8Env s0 s1 p l nb k q v5 v7 v9 x)) 194 11 := fun _ => step_move (by kernel_rfl) (Opd.of_base 1 rfl) rfl
theorem sh8a_12 {Q : Exit → Act → World → Prop} (s0 s1 : ByteArray) (p : Pay) (l : Fo) (nb k : Nat) (q : Pay × Fo) (v5 v7 v9 : Value) (x : Nat → Value) (hq : [Bl.un p l, Bl.ty s0 p l, Bl.dom s0 p l, Bl.ext s0 p l, Bl.perm s1 s0 p l][k]? = some q) : RStep (strip sh8Ops) Q (fun i => ((sh8Es s0 s1 p l nb k q v5 v7 v9 x)[i]?).getD .any) (fun i => (sh8Ds[i]?).getD (1000 + i)) (look (sh8Env s0 s1 p l nb k q v5 v7 v9 x)) 194 12 := fun _ => step_move (by kernel_rfl) (Opd.of_base 0 rfl) rfl
theorem sh8a_13 {Q : Exit → Act → World → Prop} (s0 s1 : ByteArray) (p : Pay) (l : Fo) (nb k : Nat) (q : Pay × Fo) (v5 v7 v9 : Value) (x : Nat → Value) (hq : [Bl.un p l, Bl.ty s0 p l, Bl.dom s0 p l, Bl.ext s0 p l, Bl.perm s1 s0 p l][k]? = some q) : RStep (strip sh8Ops) Q (fun i => ((sh8Es s0 s1 p l nb k q v5 v7 v9 x)[i]?).getD .any) (fun i => (sh8Ds[i]?).getD (1000 + i)) (look (sh8Env s0 s1 p l nb k q v5 v7 v9 x)) 194 13 := fun _ => step_load_term (by kernel_rfl) (Opd.ofX (Opd.of_base 5 rfl)) rfl
theorem sh8a_14 {Q : Exit → Act → World → Prop} (s0 s1 : ByteArray) (p : Pay) (l : Fo) (nb k : Nat) (q : Pay × Fo) (v5 v7 v9 : Value) (x : Nat → Value) (hq : [Bl.un p l, Bl.ty s0 p l, Bl.dom s0 p l, Bl.ext s0 p l, Bl.perm s1 s0 p l][k]? = some q) : RStep (strip sh8Ops) Q (fun i => ((sh8Es s0 s1 p l nb k q v5 v7 v9 x)[i]?).getD .any) (fun i => (sh8Ds[i]?).getD (1000 + i)) (look (sh8Env s0 s1 p l nb k q v5 v7 v9 x)) 194 14 := fun _ => step_sPerm (g := 990) (by kernel_rfl) (Opd.dep 11 rfl rfl (by kernel_rfl)) (Opd.dep 12 rfl rfl (by kernel_rfl)) (Opd.dep 13 rfl rfl (by kernel_rfl)) (Opd.of_base 990 rfl) rfl
theorem sh8a_15 {Q : Exit → Act → World → Prop} (s0 s1 : ByteArray) (p : Pay) (l : Fo) (nb k : Nat) (q : Pay × Fo) (v5 v7 v9 : Value) (x : Nat → Value) (hq : [Bl.un p l, Bl.ty s0 p l, Bl.dom s0 p l, Bl.ext s0 p l, Bl.perm s1 s0 p l][k]? = some q) : RStep (strip sh8Ops) Q (fun i => ((sh8Es s0 s1 p l nb k q v5 v7 v9 x)[i]?).getD .any) (fun i => (sh8Ds[i]?).getD (1000 + i)) (look (sh8Env s0 s1 p l nb k q v5 v7 v9 x)) 194 15 := fun _ => step_build5 (by kernel_rfl) (Opd.dep 1 rfl rfl (by kernel_rfl)) (Opd.dep 4 rfl rfl (by kernel_rfl)) (Opd.dep 7 rfl rfl (by kernel_rfl)) (Opd.dep 10 rfl rfl (by kernel_rfl)) (Opd.dep 14 rfl rfl (by kernel_rfl)) rfl
theorem sh8a_16 {Q : Exit → Act → World → Prop} (s0 s1 : ByteArray) (p : Pay) (l : Fo) (nb k : Nat) (q : Pay × Fo) (v5 v7 v9 : Value) (x : Nat → Value) (hq : [Bl.un p l, Bl.ty s0 p l, Bl.dom s0 p l, Bl.ext s0 p l, Bl.perm s1 s0 p l][k]? = some q) : RStep (strip sh8Ops) Q (fun i => ((sh8Es s0 s1 p l nb k q v5 v7 v9 x)[i]?).getD .any) (fun i => (sh8Ds[i]?).getD (1000 + i)) (look (sh8Env s0 s1 p l nb k q v5 v7 v9 x)) 194 16 := fun _ => step_move (by kernel_rfl) (Opd.of_base 8 rfl) rfl
theorem sh8a_17 {Q : Exit → Act → World → Prop} (s0 s1 : ByteArray) (p : Pay) (l : Fo) (nb k : Nat) (q : Pay × Fo) (v5 v7 v9 : Value) (x : Nat → Value) (hq : [Bl.un p l, Bl.ty s0 p l, Bl.dom s0 p l, Bl.ext s0 p l, Bl.perm s1 s0 p l][k]? = some q) : RStep (strip sh8Ops) Q (fun i => ((sh8Es s0 s1 p l nb k q v5 v7 v9 x)[i]?).getD .any) (fun i => (sh8Ds[i]?).getD (1000 + i)) (look (sh8Env s0 s1 p l nb k q v5 v7 v9 x)) 194 17 := fun _ => step_index5 (by kernel_rfl) (Opd.dep 15 rfl rfl (by kernel_rfl)) (Opd.dep 16 rfl rfl (by kernel_rfl)) hq rfl
theorem sh8b_0 {Q : Exit → Act → World → Prop} (s0 s1 : ByteArray) (p : Pay) (l : Fo) (nb k : Nat) (q : Pay × Fo) (v5 v7 v9 : Value) (x : Nat → Value) (r : Nat) (hq : [Bl.un p l, Bl.ty s0 p l, Bl.dom s0 p l, Bl.ext s0 p l, Bl.perm s1 s0 p l][k]? = some q) : RStep (strip sh8Ops) Q (fun i => ((sh8Es2 s0 s1 p l nb k q v5 v7 v9 x r)[i]?).getD .any) (fun i => (sh8Ds[i]?).getD (1000 + i)) (look (sh8Env2 s0 s1 p l nb k q v5 v7 v9 x r)) 194 0 := fun _ => step_nload (by kernel_rfl) (Opd.ofX (Opd.of_base 5 rfl)) rfl
theorem sh8b_1 {Q : Exit → Act → World → Prop} (s0 s1 : ByteArray) (p : Pay) (l : Fo) (nb k : Nat) (q : Pay × Fo) (v5 v7 v9 : Value) (x : Nat → Value) (r : Nat) (hq : [Bl.un p l, Bl.ty s0 p l, Bl.dom s0 p l, Bl.ext s0 p l, Bl.perm s1 s0 p l][k]? = some q) : RStep (strip sh8Ops) Q (fun i => ((sh8Es2 s0 s1 p l nb k q v5 v7 v9 x r)[i]?).getD .any) (fun i => (sh8Ds[i]?).getD (1000 + i)) (look (sh8Env2 s0 s1 p l nb k q v5 v7 v9 x r)) 194 1 := fun _ => step_sUn (g := 990) (by kernel_rfl) (Opd.ofT (Opd.dep 0 rfl rfl (by kernel_rfl))) (Opd.of_base 990 rfl) rfl
theorem sh8b_2 {Q : Exit → Act → World → Prop} (s0 s1 : ByteArray) (p : Pay) (l : Fo) (nb k : Nat) (q : Pay × Fo) (v5 v7 v9 : Value) (x : Nat → Value) (r : Nat) (hq : [Bl.un p l, Bl.ty s0 p l, Bl.dom s0 p l, Bl.ext s0 p l, Bl.perm s1 s0 p l][k]? = some q) : RStep (strip sh8Ops) Q (fun i => ((sh8Es2 s0 s1 p l nb k q v5 v7 v9 x r)[i]?).getD .any) (fun i => (sh8Ds[i]?).getD (1000 + i)) (look (sh8Env2 s0 s1 p l nb k q v5 v7 v9 x r)) 194 2 := fun _ => step_move (by kernel_rfl) (Opd.of_base 0 rfl) rfl
theorem sh8b_3 {Q : Exit → Act → World → Prop} (s0 s1 : ByteArray) (p : Pay) (l : Fo) (nb k : Nat) (q : Pay × Fo) (v5 v7 v9 : Value) (x : Nat → Value) (r : Nat) (hq : [Bl.un p l, Bl.ty s0 p l, Bl.dom s0 p l, Bl.ext s0 p l, Bl.perm s1 s0 p l][k]? = some q) : RStep (strip sh8Ops) Q (fun i => ((sh8Es2 s0 s1 p l nb k q v5 v7 v9 x r)[i]?).getD .any) (fun i => (sh8Ds[i]?).getD (1000 + i)) (look (sh8Env2 s0 s1 p l nb k q v5 v7 v9 x r)) 194 3 := fun _ => step_nload (by kernel_rfl) (Opd.ofX (Opd.of_base 5 rfl)) rfl
theorem sh8b_4 {Q : Exit → Act → World → Prop} (s0 s1 : ByteArray) (p : Pay) (l : Fo) (nb k : Nat) (q : Pay × Fo) (v5 v7 v9 : Value) (x : Nat → Value) (r : Nat) (hq : [Bl.un p l, Bl.ty s0 p l, Bl.dom s0 p l, Bl.ext s0 p l, Bl.perm s1 s0 p l][k]? = some q) : RStep (strip sh8Ops) Q (fun i => ((sh8Es2 s0 s1 p l nb k q v5 v7 v9 x r)[i]?).getD .any) (fun i => (sh8Ds[i]?).getD (1000 + i)) (look (sh8Env2 s0 s1 p l nb k q v5 v7 v9 x r)) 194 4 := fun _ => step_sTy (g := 990) (by kernel_rfl) (Opd.dep 2 rfl rfl (by kernel_rfl)) (Opd.ofT (Opd.dep 3 rfl rfl (by kernel_rfl))) (Opd.of_base 990 rfl) rfl
theorem sh8b_5 {Q : Exit → Act → World → Prop} (s0 s1 : ByteArray) (p : Pay) (l : Fo) (nb k : Nat) (q : Pay × Fo) (v5 v7 v9 : Value) (x : Nat → Value) (r : Nat) (hq : [Bl.un p l, Bl.ty s0 p l, Bl.dom s0 p l, Bl.ext s0 p l, Bl.perm s1 s0 p l][k]? = some q) : RStep (strip sh8Ops) Q (fun i => ((sh8Es2 s0 s1 p l nb k q v5 v7 v9 x r)[i]?).getD .any) (fun i => (sh8Ds[i]?).getD (1000 + i)) (look (sh8Env2 s0 s1 p l nb k q v5 v7 v9 x r)) 194 5 := fun _ => step_move (by kernel_rfl) (Opd.of_base 0 rfl) rfl
theorem sh8b_6 {Q : Exit → Act → World → Prop} (s0 s1 : ByteArray) (p : Pay) (l : Fo) (nb k : Nat) (q : Pay × Fo) (v5 v7 v9 : Value) (x : Nat → Value) (r : Nat) (hq : [Bl.un p l, Bl.ty s0 p l, Bl.dom s0 p l, Bl.ext s0 p l, Bl.perm s1 s0 p l][k]? = some q) : RStep (strip sh8Ops) Q (fun i => ((sh8Es2 s0 s1 p l nb k q v5 v7 v9 x r)[i]?).getD .any) (fun i => (sh8Ds[i]?).getD (1000 + i)) (look (sh8Env2 s0 s1 p l nb k q v5 v7 v9 x r)) 194 6 := fun _ => step_nload (by kernel_rfl) (Opd.ofX (Opd.of_base 5 rfl)) rfl
theorem sh8b_7 {Q : Exit → Act → World → Prop} (s0 s1 : ByteArray) (p : Pay) (l : Fo) (nb k : Nat) (q : Pay × Fo) (v5 v7 v9 : Value) (x : Nat → Value) (r : Nat) (hq : [Bl.un p l, Bl.ty s0 p l, Bl.dom s0 p l, Bl.ext s0 p l, Bl.perm s1 s0 p l][k]? = some q) : RStep (strip sh8Ops) Q (fun i => ((sh8Es2 s0 s1 p l nb k q v5 v7 v9 x r)[i]?).getD .any) (fun i => (sh8Ds[i]?).getD (1000 + i)) (look (sh8Env2 s0 s1 p l nb k q v5 v7 v9 x r)) 194 7 := fun _ => step_sDom (g := 990) (by kernel_rfl) (Opd.dep 5 rfl rfl (by kernel_rfl)) (Opd.ofT (Opd.dep 6 rfl rfl (by kernel_rfl))) (Opd.of_base 990 rfl) rfl
theorem sh8b_8 {Q : Exit → Act → World → Prop} (s0 s1 : ByteArray) (p : Pay) (l : Fo) (nb k : Nat) (q : Pay × Fo) (v5 v7 v9 : Value) (x : Nat → Value) (r : Nat) (hq : [Bl.un p l, Bl.ty s0 p l, Bl.dom s0 p l, Bl.ext s0 p l, Bl.perm s1 s0 p l][k]? = some q) : RStep (strip sh8Ops) Q (fun i => ((sh8Es2 s0 s1 p l nb k q v5 v7 v9 x r)[i]?).getD .any) (fun i => (sh8Ds[i]?).getD (1000 + i)) (look (sh8Env2 s0 s1 p l nb k q v5 v7 v9 x r)) 194 8 := fun _ => step_move (by kernel_rfl) (Opd.of_base 0 rfl) rfl
theorem sh8b_9 {Q : Exit → Act → World → Prop} (s0 s1 : ByteArray) (p : Pay) (l : Fo) (nb k : Nat) (q : Pay × Fo) (v5 v7 v9 : Value) (x : Nat → Value) (r : Nat) (hq : [Bl.un p l, Bl.ty s0 p l, Bl.dom s0 p l, Bl.ext s0 p l, Bl.perm s1 s0 p l][k]? = some q) : RStep (strip sh8Ops) Q (fun i => ((sh8Es2 s0 s1 p l nb k q v5 v7 v9 x r)[i]?).getD .any) (fun i => (sh8Ds[i]?).getD (1000 + i)) (look (sh8Env2 s0 s1 p l nb k q v5 v7 v9 x r)) 194 9 := fun _ => step_nload (by kernel_rfl) (Opd.ofX (Opd.of_base 5 rfl)) rfl
theorem sh8b_10 {Q : Exit → Act → World → Prop} (s0 s1 : ByteArray) (p : Pay) (l : Fo) (nb k : Nat) (q : Pay × Fo) (v5 v7 v9 : Value) (x : Nat → Value) (r : Nat) (hq : [Bl.un p l, Bl.ty s0 p l, Bl.dom s0 p l, Bl.ext s0 p l, Bl.perm s1 s0 p l][k]? = some q) : RStep (strip sh8Ops) Q (fun i => ((sh8Es2 s0 s1 p l nb k q v5 v7 v9 x r)[i]?).getD .any) (fun i => (sh8Ds[i]?).getD (1000 + i)) (look (sh8Env2 s0 s1 p l nb k q v5 v7 v9 x r)) 194 10 := fun _ => step_sExt (g := 990) (by kernel_rfl) (Opd.dep 8 rfl rfl (by kernel_rfl)) (Opd.ofT (Opd.dep 9 rfl rfl (by kernel_rfl))) (Opd.of_base 990 rfl) rfl
theorem sh8b_11 {Q : Exit → Act → World → Prop} (s0 s1 : ByteArray) (p : Pay) (l : Fo) (nb k : Nat) (q : Pay × Fo) (v5 v7 v9 : Value) (x : Nat → Value) (r : Nat) (hq : [Bl.un p l, Bl.ty s0 p l, Bl.dom s0 p l, Bl.ext s0 p l, Bl.perm s1 s0 p l][k]? = some q) : RStep (strip sh8Ops) Q (fun i => ((sh8Es2 s0 s1 p l nb k q v5 v7 v9 x r)[i]?).getD .any) (fun i => (sh8Ds[i]?).getD (1000 + i)) (look (sh8Env2 s0 s1 p l nb k q v5 v7 v9 x r)) 194 11 := fun _ => step_move (by kernel_rfl) (Opd.of_base 1 rfl) rfl
theorem sh8b_12 {Q : Exit → Act → World → Prop} (s0 s1 : ByteArray) (p : Pay) (l : Fo) (nb k : Nat) (q : Pay × Fo) (v5 v7 v9 : Value) (x : Nat → Value) (r : Nat) (hq : [Bl.un p l, Bl.ty s0 p l, Bl.dom s0 p l, Bl.ext s0 p l, Bl.perm s1 s0 p l][k]? = some q) : RStep (strip sh8Ops) Q (fun i => ((sh8Es2 s0 s1 p l nb k q v5 v7 v9 x r)[i]?).getD .any) (fun i => (sh8Ds[i]?).getD (1000 + i)) (look (sh8Env2 s0 s1 p l nb k q v5 v7 v9 x r)) 194 12 := fun _ => step_move (by kernel_rfl) (Opd.of_base 0 rfl) rfl
theorem sh8b_13 {Q : Exit → Act → World → Prop} (s0 s1 : ByteArray) (p : Pay) (l : Fo) (nb k : Nat) (q : Pay × Fo) (v5 v7 v9 : Value) (x : Nat → Value) (r : Nat) (hq : [Bl.un p l, Bl.ty s0 p l, Bl.dom s0 p l, Bl.ext s0 p l, Bl.perm s1 s0 p l][k]? = some q) : RStep (strip sh8Ops) Q (fun i => ((sh8Es2 s0 s1 p l nb k q v5 v7 v9 x r)[i]?).getD .any) (fun i => (sh8Ds[i]?).getD (1000 + i)) (look (sh8Env2 s0 s1 p l nb k q v5 v7 v9 x r)) 194 13 := fun _ => step_nload (by kernel_rfl) (Opd.ofX (Opd.of_base 5 rfl)) rfl
theorem sh8b_14 {Q : Exit → Act → World → Prop} (s0 s1 : ByteArray) (p : Pay) (l : Fo) (nb k : Nat) (q : Pay × Fo) (v5 v7 v9 : Value) (x : Nat → Value) (r : Nat) (hq : [Bl.un p l, Bl.ty s0 p l, Bl.dom s0 p l, Bl.ext s0 p l, Bl.perm s1 s0 p l][k]? = some q) : RStep (strip sh8Ops) Q (fun i => ((sh8Es2 s0 s1 p l nb k q v5 v7 v9 x r)[i]?).getD .any) (fun i => (sh8Ds[i]?).getD (1000 + i)) (look (sh8Env2 s0 s1 p l nb k q v5 v7 v9 x r)) 194 14 := fun _ => step_sPerm (g := 990) (by kernel_rfl) (Opd.dep 11 rfl rfl (by kernel_rfl)) (Opd.dep 12 rfl rfl (by kernel_rfl)) (Opd.ofT (Opd.dep 13 rfl rfl (by kernel_rfl))) (Opd.of_base 990 rfl) rfl
theorem sh8b_15 {Q : Exit → Act → World → Prop} (s0 s1 : ByteArray) (p : Pay) (l : Fo) (nb k : Nat) (q : Pay × Fo) (v5 v7 v9 : Value) (x : Nat → Value) (r : Nat) (hq : [Bl.un p l, Bl.ty s0 p l, Bl.dom s0 p l, Bl.ext s0 p l, Bl.perm s1 s0 p l][k]? = some q) : RStep (strip sh8Ops) Q (fun i => ((sh8Es2 s0 s1 p l nb k q v5 v7 v9 x r)[i]?).getD .any) (fun i => (sh8Ds[i]?).getD (1000 + i)) (look (sh8Env2 s0 s1 p l nb k q v5 v7 v9 x r)) 194 15 := fun _ => step_build5 (by kernel_rfl) (Opd.dep 1 rfl rfl (by kernel_rfl)) (Opd.dep 4 rfl rfl (by kernel_rfl)) (Opd.dep 7 rfl rfl (by kernel_rfl)) (Opd.dep 10 rfl rfl (by kernel_rfl)) (Opd.dep 14 rfl rfl (by kernel_rfl)) rfl
theorem sh8b_16 {Q : Exit → Act → World → Prop} (s0 s1 : ByteArray) (p : Pay) (l : Fo) (nb k : Nat) (q : Pay × Fo) (v5 v7 v9 : Value) (x : Nat → Value) (r : Nat) (hq : [Bl.un p l, Bl.ty s0 p l, Bl.dom s0 p l, Bl.ext s0 p l, Bl.perm s1 s0 p l][k]? = some q) : RStep (strip sh8Ops) Q (fun i => ((sh8Es2 s0 s1 p l nb k q v5 v7 v9 x r)[i]?).getD .any) (fun i => (sh8Ds[i]?).getD (1000 + i)) (look (sh8Env2 s0 s1 p l nb k q v5 v7 v9 x r)) 194 16 := fun _ => step_move (by kernel_rfl) (Opd.of_base 8 rfl) rfl
theorem sh8b_17 {Q : Exit → Act → World → Prop} (s0 s1 : ByteArray) (p : Pay) (l : Fo) (nb k : Nat) (q : Pay × Fo) (v5 v7 v9 : Value) (x : Nat → Value) (r : Nat) (hq : [Bl.un p l, Bl.ty s0 p l, Bl.dom s0 p l, Bl.ext s0 p l, Bl.perm s1 s0 p l][k]? = some q) : RStep (strip sh8Ops) Q (fun i => ((sh8Es2 s0 s1 p l nb k q v5 v7 v9 x r)[i]?).getD .any) (fun i => (sh8Ds[i]?).getD (1000 + i)) (look (sh8Env2 s0 s1 p l nb k q v5 v7 v9 x r)) 194 17 := fun _ => step_index5 (by kernel_rfl) (Opd.dep 15 rfl rfl (by kernel_rfl)) (Opd.dep 16 rfl rfl (by kernel_rfl)) hq rfl
theorem Hold.add {N : Nat} {env : Env} {w0 w : World} {a : Act} (h : Hold N env w0 a w) (s : Nat) {k : Kd} (hs : k.R (a.tmps.getD s undef) w) : Hold N ((s, k) :: env) w0 a w :=
  ⟨h.size, h.defers, h.world, fun t k' hk => by
    rw [look_cons] at hk
    by_cases e : s = t
    · subst e
      rw [if_pos (by simp)] at hk
      cases hk
      exact hs
    · rw [if_neg (by simpa using e)] at hk
      exact h.slots t k' hk⟩
theorem look_same {d : Nat} {k k' : Kd} {e e' : Env} (h : ∀ t, look e t = none → look e' t = none) : ∀ t, look ((d, k) :: e) t = none → look ((d, k') :: e') t = none := fun t ht => by
  rw [look_cons] at ht ⊢
  by_cases hd : (d == t) = true
  · rw [if_pos hd] at ht; cases ht
  · rw [if_neg hd] at ht ⊢
    exact h t ht
theorem sh8_region {Q : Exit → Act → World → Prop} (s0 s1 : ByteArray) (p : Pay) (l : Fo) (nb k : Nat) (q : Pay × Fo) (v5 v7 v9 : Value) (x : Nat → Value) (hq : [Bl.un p l, Bl.ty s0 p l, Bl.dom s0 p l, Bl.ext s0 p l, Bl.perm s1 s0 p l][k]? = some q) {w0 : World} {a : Act} {w : World} (h : Hold 194 (sh8Env s0 s1 p l nb k q v5 v7 v9 x) w0 a w)
    (hQ : ∀ r a' w', w0.heap.size ≤ r → Hold 194 [(10, .sat (rS nb r q.1 q.2)), (0, .val (.string s0)), (1, .val (.string s1)), (5, .sat (pX (.sat (nP 0 (some r) p l)) v5)), (7, .val v7), (9, .val v9), (8, .val (.int .i64 k)), (2, .val (x 2)), (3, .val (x 3)), (4, .val (x 4)), (17, .val (x 17)), (18, .val (x 18)), (19, .val (x 19)), (20, .val (x 20)), (21, .val (x 21)), (22, .val (x 22)), (23, .val (x 23)), (24, .val (x 24)), (25, .val (x 25)), (26, .val (x 26)), (27, .val (x 27)), (28, .val (x 28)), (29, .val (x 29)), (30, .val (x 30)), (31, .val (x 31)), (32, .val (x 32)), (193, .val (x 193))] w0 a' w' → Q .normal a' w') : (Code.region 8 sh8Ops true).wp Try.prog Q a w := by
  have halla : ∀ i, i < 0 → RStep (strip sh8Ops) Q (fun i => ((sh8Es s0 s1 p l nb k q v5 v7 v9 x)[i]?).getD .any) (fun i => (sh8Ds[i]?).getD (1000 + i)) (look (sh8Env s0 s1 p l nb k q v5 v7 v9 x)) 194 i := fun i hi => absurd hi (by omega)
  have halla := below_succ halla (sh8a_0 s0 s1 p l nb k q v5 v7 v9 x hq)
  have halla := below_succ halla (sh8a_1 s0 s1 p l nb k q v5 v7 v9 x hq)
  have halla := below_succ halla (sh8a_2 s0 s1 p l nb k q v5 v7 v9 x hq)
  have halla := below_succ halla (sh8a_3 s0 s1 p l nb k q v5 v7 v9 x hq)
  have halla := below_succ halla (sh8a_4 s0 s1 p l nb k q v5 v7 v9 x hq)
  have halla := below_succ halla (sh8a_5 s0 s1 p l nb k q v5 v7 v9 x hq)
  have halla := below_succ halla (sh8a_6 s0 s1 p l nb k q v5 v7 v9 x hq)
  have halla := below_succ halla (sh8a_7 s0 s1 p l nb k q v5 v7 v9 x hq)
  have halla := below_succ halla (sh8a_8 s0 s1 p l nb k q v5 v7 v9 x hq)
  have halla := below_succ halla (sh8a_9 s0 s1 p l nb k q v5 v7 v9 x hq)
  have halla := below_succ halla (sh8a_10 s0 s1 p l nb k q v5 v7 v9 x hq)
  have halla := below_succ halla (sh8a_11 s0 s1 p l nb k q v5 v7 v9 x hq)
  have halla := below_succ halla (sh8a_12 s0 s1 p l nb k q v5 v7 v9 x hq)
  have halla := below_succ halla (sh8a_13 s0 s1 p l nb k q v5 v7 v9 x hq)
  have halla := below_succ halla (sh8a_14 s0 s1 p l nb k q v5 v7 v9 x hq)
  have halla := below_succ halla (sh8a_15 s0 s1 p l nb k q v5 v7 v9 x hq)
  have halla := below_succ halla (sh8a_16 s0 s1 p l nb k q v5 v7 v9 x hq)
  have halla := below_succ halla (sh8a_17 s0 s1 p l nb k q v5 v7 v9 x hq)
  have hallb : ∀ r i, i < 0 → RStep (strip sh8Ops) Q (fun i => ((sh8Es2 s0 s1 p l nb k q v5 v7 v9 x r)[i]?).getD .any) (fun i => (sh8Ds[i]?).getD (1000 + i)) (look (sh8Env2 s0 s1 p l nb k q v5 v7 v9 x r)) 194 i := fun r i hi => absurd hi (by omega)
  have hallb := fun r => below_succ (hallb r) (sh8b_0 s0 s1 p l nb k q v5 v7 v9 x r hq)
  have hallb := fun r => below_succ (hallb r) (sh8b_1 s0 s1 p l nb k q v5 v7 v9 x r hq)
  have hallb := fun r => below_succ (hallb r) (sh8b_2 s0 s1 p l nb k q v5 v7 v9 x r hq)
  have hallb := fun r => below_succ (hallb r) (sh8b_3 s0 s1 p l nb k q v5 v7 v9 x r hq)
  have hallb := fun r => below_succ (hallb r) (sh8b_4 s0 s1 p l nb k q v5 v7 v9 x r hq)
  have hallb := fun r => below_succ (hallb r) (sh8b_5 s0 s1 p l nb k q v5 v7 v9 x r hq)
  have hallb := fun r => below_succ (hallb r) (sh8b_6 s0 s1 p l nb k q v5 v7 v9 x r hq)
  have hallb := fun r => below_succ (hallb r) (sh8b_7 s0 s1 p l nb k q v5 v7 v9 x r hq)
  have hallb := fun r => below_succ (hallb r) (sh8b_8 s0 s1 p l nb k q v5 v7 v9 x r hq)
  have hallb := fun r => below_succ (hallb r) (sh8b_9 s0 s1 p l nb k q v5 v7 v9 x r hq)
  have hallb := fun r => below_succ (hallb r) (sh8b_10 s0 s1 p l nb k q v5 v7 v9 x r hq)
  have hallb := fun r => below_succ (hallb r) (sh8b_11 s0 s1 p l nb k q v5 v7 v9 x r hq)
  have hallb := fun r => below_succ (hallb r) (sh8b_12 s0 s1 p l nb k q v5 v7 v9 x r hq)
  have hallb := fun r => below_succ (hallb r) (sh8b_13 s0 s1 p l nb k q v5 v7 v9 x r hq)
  have hallb := fun r => below_succ (hallb r) (sh8b_14 s0 s1 p l nb k q v5 v7 v9 x r hq)
  have hallb := fun r => below_succ (hallb r) (sh8b_15 s0 s1 p l nb k q v5 v7 v9 x r hq)
  have hallb := fun r => below_succ (hallb r) (sh8b_16 s0 s1 p l nb k q v5 v7 v9 x r hq)
  have hallb := fun r => below_succ (hallb r) (sh8b_17 s0 s1 p l nb k q v5 v7 v9 x r hq)
  refine env_resD (m := 19) (n := 20) (c := nb) (i1 := 18) sh8Ds (sh8Es s0 s1 p l nb k q v5 v7 v9 x) (sh8Es2 s0 s1 p l nb k q v5 v7 v9 x) (sh8Env2 s0 s1 p l nb k q v5 v7 v9 x) (by kernel_rfl) (by decide) (by decide) (by kernel_rfl) (by kernel_rfl) (by kernel_rfl) (by kernel_rfl) (fun r => rfl) (of_decide_eq_true (by kernel_rfl))
    (fun i hi hne => halla i (by omega)) (fun r i hi hne => hallb r i (by omega)) rfl (fun r => rfl) (fun r => look_same (look_same (look_same (look_same (look_same (look_same (look_same (look_same (look_same (look_same (look_same (look_same (look_same (look_same (look_same (look_same (look_same (look_same (look_same (look_same (look_same (look_same (look_same (look_same (look_same (look_same (look_same (fun t ht => ht)))))))))))))))))))))))))))) ?_ (fun r j hj => by
    match j, hj with
    | 0, _ => exact turns_term r p l
    | 1, _ => exact turns_nS r nb _ _
    | 2, _ => exact turns_val r _
    | 3, _ => exact turns_term r p l
    | 4, _ => exact turns_nS r nb _ _
    | 5, _ => exact turns_val r _
    | 6, _ => exact turns_term r p l
    | 7, _ => exact turns_nS r nb _ _
    | 8, _ => exact turns_val r _
    | 9, _ => exact turns_term r p l
    | 10, _ => exact turns_nS r nb _ _
    | 11, _ => exact turns_val r _
    | 12, _ => exact turns_val r _
    | 13, _ => exact turns_term r p l
    | 14, _ => exact turns_nS r nb _ _
    | 15, _ => exact turns_aS r nb _
    | 16, _ => exact turns_val r _
    | 17, _ => exact turns_nS r nb _ _
    | 18, _ => exact turns_any r
    | j + 19, hj => exact absurd hj (by omega)) h ?_
  · exact fun r => goes_cons 0 rfl (turns_val _ _) (goes_cons 1 rfl (turns_val _ _) (goes_cons 5 rfl (turns_pX _ (turns_ptr _ _ _)) (goes_cons 7 rfl (turns_val _ _) (goes_cons 9 rfl (turns_val _ _) (goes_cons 8 rfl (turns_val _ _) (goes_cons 2 rfl (turns_val _ _) (goes_cons 3 rfl (turns_val _ _) (goes_cons 4 rfl (turns_val _ _) (goes_cons 17 rfl (turns_val _ _) (goes_cons 18 rfl (turns_val _ _) (goes_cons 19 rfl (turns_val _ _) (goes_cons 20 rfl (turns_val _ _) (goes_cons 21 rfl (turns_val _ _) (goes_cons 22 rfl (turns_val _ _) (goes_cons 23 rfl (turns_val _ _) (goes_cons 24 rfl (turns_val _ _) (goes_cons 25 rfl (turns_val _ _) (goes_cons 26 rfl (turns_val _ _) (goes_cons 27 rfl (turns_val _ _) (goes_cons 28 rfl (turns_val _ _) (goes_cons 29 rfl (turns_val _ _) (goes_cons 30 rfl (turns_val _ _) (goes_cons 31 rfl (turns_val _ _) (goes_cons 32 rfl (turns_val _ _) (goes_cons 193 rfl (turns_val _ _) (goes_cons 990 rfl (turns_gP _ _) (goes_nil _ _)))))))))))))))))))))))))))
  · intro r a' w' hr hc h
    clear halla hallb
    have h := h.add 10 (k := .sat (rC nb r zp .nil)) hc
    show wpOps Try.prog _ Q [19] a' w'
    refine env_storeS (i := 19) (x := 10) (y := 57) (r := r) [(0, .val (.string s0)), (1, .val (.string s1)), (5, .sat (pX (.sat (nP 0 (some r) p l)) v5)), (7, .val v7), (9, .val v9), (8, .val (.int .i64 k)), (2, .val (x 2)), (3, .val (x 3)), (4, .val (x 4)), (17, .val (x 17)), (18, .val (x 18)), (19, .val (x 19)), (20, .val (x 20)), (21, .val (x 21)), (22, .val (x 22)), (23, .val (x 23)), (24, .val (x 24)), (25, .val (x 25)), (26, .val (x 26)), (27, .val (x 27)), (28, .val (x 28)), (29, .val (x 29)), (30, .val (x 30)), (31, .val (x 31)), (32, .val (x 32)), (193, .val (x 193))] (by kernel_rfl) rfl rfl hr (stays_cons 0 rfl (away_val _ _) (stays_cons 1 rfl (away_val _ _) (stays_cons 5 rfl (away_pX _ (away_nP _ _ _ _)) (stays_cons 7 rfl (away_val _ _) (stays_cons 9 rfl (away_val _ _) (stays_cons 8 rfl (away_val _ _) (stays_cons 2 rfl (away_val _ _) (stays_cons 3 rfl (away_val _ _) (stays_cons 4 rfl (away_val _ _) (stays_cons 17 rfl (away_val _ _) (stays_cons 18 rfl (away_val _ _) (stays_cons 19 rfl (away_val _ _) (stays_cons 20 rfl (away_val _ _) (stays_cons 21 rfl (away_val _ _) (stays_cons 22 rfl (away_val _ _) (stays_cons 23 rfl (away_val _ _) (stays_cons 24 rfl (away_val _ _) (stays_cons 25 rfl (away_val _ _) (stays_cons 26 rfl (away_val _ _) (stays_cons 27 rfl (away_val _ _) (stays_cons 28 rfl (away_val _ _) (stays_cons 29 rfl (away_val _ _) (stays_cons 30 rfl (away_val _ _) (stays_cons 31 rfl (away_val _ _) (stays_cons 32 rfl (away_val _ _) (stays_cons 193 rfl (away_val _ _) (stays_nil _ _))))))))))))))))))))))))))) h ?_
    clear h
    intro a w h
    exact hQ r a w hr h
theorem lit194 (u : Nat → Value) : ((List.range 194).map u).toArray = #[u 0, u 1, u 2, u 3, u 4, u 5, u 6, u 7, u 8, u 9, u 10, u 11, u 12, u 13, u 14, u 15, u 16, u 17, u 18, u 19, u 20, u 21, u 22, u 23, u 24, u 25, u 26, u 27, u 28, u 29, u 30, u 31, u 32, u 33, u 34, u 35, u 36, u 37, u 38, u 39, u 40, u 41, u 42, u 43, u 44, u 45, u 46, u 47, u 48, u 49, u 50, u 51, u 52, u 53, u 54, u 55, u 56, u 57, u 58, u 59, u 60, u 61, u 62, u 63, u 64, u 65, u 66, u 67, u 68, u 69, u 70, u 71, u 72, u 73, u 74, u 75, u 76, u 77, u 78, u 79, u 80, u 81, u 82, u 83, u 84, u 85, u 86, u 87, u 88, u 89, u 90, u 91, u 92, u 93, u 94, u 95, u 96, u 97, u 98, u 99, u 100, u 101, u 102, u 103, u 104, u 105, u 106, u 107, u 108, u 109, u 110, u 111, u 112, u 113, u 114, u 115, u 116, u 117, u 118, u 119, u 120, u 121, u 122, u 123, u 124, u 125, u 126, u 127, u 128, u 129, u 130, u 131, u 132, u 133, u 134, u 135, u 136, u 137, u 138, u 139, u 140, u 141, u 142, u 143, u 144, u 145, u 146, u 147, u 148, u 149, u 150, u 151, u 152, u 153, u 154, u 155, u 156, u 157, u 158, u 159, u 160, u 161, u 162, u 163, u 164, u 165, u 166, u 167, u 168, u 169, u 170, u 171, u 172, u 173, u 174, u 175, u 176, u 177, u 178, u 179, u 180, u 181, u 182, u 183, u 184, u 185, u 186, u 187, u 188, u 189, u 190, u 191, u 192, u 193] := by kernel_rfl
theorem arr194 (t : Array Value) (h : t.size = 194) : t = ((List.range 194).map fun i => t.getD i undef).toArray := by
  apply Array.ext
  · simp [h]
  · intro i h1 h2
    simp [h1]
theorem sh8_walk {Q : Exit → Act → World → Prop} {ops : Array Oper} (hops : ops = sh8Ops) (s0 s1 : ByteArray) (p : Pay) (l : Fo) (A : Option Addr) (m c k b5 : Nat) (q : Pay × Fo) {v7 v9 X2 X3 X4 X6 X10 X11 X12 X13 X14 X15 X16 X17 X18 X19 X20 X21 X22 X23 X24 X25 X26 X27 X28 X29 X30 X31 X32 X33 X34 X35 X36 X37 X38 X39 X40 X41 X42 X43 X44 X45 X46 X47 X48 X49 X50 X51 X52 X53 X54 X55 X56 X57 X58 X59 X60 X61 X62 X63 X64 X65 X66 X67 X68 X69 X70 X71 X72 X73 X74 X75 X76 X77 X78 X79 X80 X81 X82 X83 X84 X85 X86 X87 X88 X89 X90 X91 X92 X93 X94 X95 X96 X97 X98 X99 X100 X101 X102 X103 X104 X105 X106 X107 X108 X109 X110 X111 X112 X113 X114 X115 X116 X117 X118 X119 X120 X121 X122 X123 X124 X125 X126 X127 X128 X129 X130 X131 X132 X133 X134 X135 X136 X137 X138 X139 X140 X141 X142 X143 X144 X145 X146 X147 X148 X149 X150 X151 X152 X153 X154 X155 X156 X157 X158 X159 X160 X161 X162 X163 X164 X165 X166 X167 X168 X169 X170 X171 X172 X173 X174 X175 X176 X177 X178 X179 X180 X181 X182 X183 X184 X185 X186 X187 X188 X189 X190 X191 X192 X193 : Value} {a : Act} {w : World} (hm : m = Tm.len l)
    (hq : [Bl.un p l, Bl.ty s0 p l, Bl.dom s0 p l, Bl.ext s0 p l, Bl.perm s1 s0 p l][k]? = some q) (ha : a = ⟨#[.string s0, .string s1, X2, X3, X4, .pointer (some ⟨b5, 0, none⟩), X6, v7, .int .i64 k, v9, X10, X11, X12, X13, X14, X15, X16, X17, X18, X19, X20, X21, X22, X23, X24, X25, X26, X27, X28, X29, X30, X31, X32, X33, X34, X35, X36, X37, X38, X39, X40, X41, X42, X43, X44, X45, X46, X47, X48, X49, X50, X51, X52, X53, X54, X55, X56, X57, X58, X59, X60, X61, X62, X63, X64, X65, X66, X67, X68, X69, X70, X71, X72, X73, X74, X75, X76, X77, X78, X79, X80, X81, X82, X83, X84, X85, X86, X87, X88, X89, X90, X91, X92, X93, X94, X95, X96, X97, X98, X99, X100, X101, X102, X103, X104, X105, X106, X107, X108, X109, X110, X111, X112, X113, X114, X115, X116, X117, X118, X119, X120, X121, X122, X123, X124, X125, X126, X127, X128, X129, X130, X131, X132, X133, X134, X135, X136, X137, X138, X139, X140, X141, X142, X143, X144, X145, X146, X147, X148, X149, X150, X151, X152, X153, X154, X155, X156, X157, X158, X159, X160, X161, X162, X163, X164, X165, X166, X167, X168, X169, X170, X171, X172, X173, X174, X175, X176, X177, X178, X179, X180, X181, X182, X183, X184, X185, X186, X187, X188, X189, X190, X191, X192, X193], []⟩)
    (hb5 : TermAt w b5 p A m c) (hlt : b5 < w.heap.size) (hA : ArgsB w w.heap.size A m l)
    (hQ : ∀ (r : Nat) (A' : Option Addr) (c' : Nat) (u : Nat → Value) (w' : World), Below w.heap.size w w' → w.heap.size ≤ r → r < w'.heap.size → TermAt w' r q.1 A' (Tm.len q.2) c' → ArgsIn (NsS w.heap.size (some r) w') w' A' (Tm.len q.2) q.2 →
      Q .normal ⟨#[.string s0, .string s1, X2, X3, X4, .pointer (some ⟨b5, 0, none⟩), u 6, v7, .int .i64 k, v9, .pointer (some ⟨r, 0, none⟩), u 11, u 12, u 13, u 14, u 15, u 16, X17, X18, X19, X20, X21, X22, X23, X24, X25, X26, X27, X28, X29, X30, X31, X32, u 33, u 34, u 35, u 36, u 37, u 38, u 39, u 40, u 41, u 42, u 43, u 44, u 45, u 46, u 47, u 48, u 49, u 50, u 51, u 52, u 53, u 54, u 55, u 56, u 57, u 58, u 59, u 60, u 61, u 62, u 63, u 64, u 65, u 66, u 67, u 68, u 69, u 70, u 71, u 72, u 73, u 74, u 75, u 76, u 77, u 78, u 79, u 80, u 81, u 82, u 83, u 84, u 85, u 86, u 87, u 88, u 89, u 90, u 91, u 92, u 93, u 94, u 95, u 96, u 97, u 98, u 99, u 100, u 101, u 102, u 103, u 104, u 105, u 106, u 107, u 108, u 109, u 110, u 111, u 112, u 113, u 114, u 115, u 116, u 117, u 118, u 119, u 120, u 121, u 122, u 123, u 124, u 125, u 126, u 127, u 128, u 129, u 130, u 131, u 132, u 133, u 134, u 135, u 136, u 137, u 138, u 139, u 140, u 141, u 142, u 143, u 144, u 145, u 146, u 147, u 148, u 149, u 150, u 151, u 152, u 153, u 154, u 155, u 156, u 157, u 158, u 159, u 160, u 161, u 162, u 163, u 164, u 165, u 166, u 167, u 168, u 169, u 170, u 171, u 172, u 173, u 174, u 175, u 176, u 177, u 178, u 179, u 180, u 181, u 182, u 183, u 184, u 185, u 186, u 187, u 188, u 189, u 190, u 191, u 192, X193], []⟩ w') : (Code.region 8 ops true).wp Try.prog Q a w := by
  subst hops
  subst hm
  subst ha
  obtain ⟨x, hx⟩ : ∃ x : Nat → Value, x = fun i => (#[.string s0, .string s1, X2, X3, X4, .pointer (some ⟨b5, 0, none⟩), X6, v7, .int .i64 k, v9, X10, X11, X12, X13, X14, X15, X16, X17, X18, X19, X20, X21, X22, X23, X24, X25, X26, X27, X28, X29, X30, X31, X32, X33, X34, X35, X36, X37, X38, X39, X40, X41, X42, X43, X44, X45, X46, X47, X48, X49, X50, X51, X52, X53, X54, X55, X56, X57, X58, X59, X60, X61, X62, X63, X64, X65, X66, X67, X68, X69, X70, X71, X72, X73, X74, X75, X76, X77, X78, X79, X80, X81, X82, X83, X84, X85, X86, X87, X88, X89, X90, X91, X92, X93, X94, X95, X96, X97, X98, X99, X100, X101, X102, X103, X104, X105, X106, X107, X108, X109, X110, X111, X112, X113, X114, X115, X116, X117, X118, X119, X120, X121, X122, X123, X124, X125, X126, X127, X128, X129, X130, X131, X132, X133, X134, X135, X136, X137, X138, X139, X140, X141, X142, X143, X144, X145, X146, X147, X148, X149, X150, X151, X152, X153, X154, X155, X156, X157, X158, X159, X160, X161, X162, X163, X164, X165, X166, X167, X168, X169, X170, X171, X172, X173, X174, X175, X176, X177, X178, X179, X180, X181, X182, X183, X184, X185, X186, X187, X188, X189, X190, X191, X192, X193] : Array Value).getD i undef := ⟨_, rfl⟩
  have h : Hold 194 (sh8Env s0 s1 p l w.heap.size k q (.pointer (some ⟨b5, 0, none⟩)) v7 v9 x) w ⟨#[.string s0, .string s1, X2, X3, X4, .pointer (some ⟨b5, 0, none⟩), X6, v7, .int .i64 k, v9, X10, X11, X12, X13, X14, X15, X16, X17, X18, X19, X20, X21, X22, X23, X24, X25, X26, X27, X28, X29, X30, X31, X32, X33, X34, X35, X36, X37, X38, X39, X40, X41, X42, X43, X44, X45, X46, X47, X48, X49, X50, X51, X52, X53, X54, X55, X56, X57, X58, X59, X60, X61, X62, X63, X64, X65, X66, X67, X68, X69, X70, X71, X72, X73, X74, X75, X76, X77, X78, X79, X80, X81, X82, X83, X84, X85, X86, X87, X88, X89, X90, X91, X92, X93, X94, X95, X96, X97, X98, X99, X100, X101, X102, X103, X104, X105, X106, X107, X108, X109, X110, X111, X112, X113, X114, X115, X116, X117, X118, X119, X120, X121, X122, X123, X124, X125, X126, X127, X128, X129, X130, X131, X132, X133, X134, X135, X136, X137, X138, X139, X140, X141, X142, X143, X144, X145, X146, X147, X148, X149, X150, X151, X152, X153, X154, X155, X156, X157, X158, X159, X160, X161, X162, X163, X164, X165, X166, X167, X168, X169, X170, X171, X172, X173, X174, X175, X176, X177, X178, X179, X180, X181, X182, X183, X184, X185, X186, X187, X188, X189, X190, X191, X192, X193], []⟩ w := ⟨by kernel_rfl, rfl, Below.refl _ _, slots_cons 0 (k0 := .val (.string s0)) (by show (_ : Value) = _; rfl) (slots_cons 1 (k0 := .val (.string s1)) (by show (_ : Value) = _; rfl) (slots_cons 5 (k0 := .sat (pX (.ptrT p l) (.pointer (some ⟨b5, 0, none⟩)))) (show (Kd.sat (pX (.ptrT p l) (.pointer (some ⟨b5, 0, none⟩)))).R (.pointer (some ⟨b5, 0, none⟩)) w from ⟨rfl, b5, 0, A, c, rfl, hlt, hb5.kind, hb5.num, hb5.name, hb5.args, hA⟩) (slots_cons 7 (k0 := .val v7) (by show (_ : Value) = _; rfl) (slots_cons 9 (k0 := .val v9) (by show (_ : Value) = _; rfl) (slots_cons 8 (k0 := .val (.int .i64 k)) (by show (_ : Value) = _; rfl) (slots_cons 2 (k0 := .val (x 2)) (by show (_ : Value) = _; rw [hx]) (slots_cons 3 (k0 := .val (x 3)) (by show (_ : Value) = _; rw [hx]) (slots_cons 4 (k0 := .val (x 4)) (by show (_ : Value) = _; rw [hx]) (slots_cons 17 (k0 := .val (x 17)) (by show (_ : Value) = _; rw [hx]) (slots_cons 18 (k0 := .val (x 18)) (by show (_ : Value) = _; rw [hx]) (slots_cons 19 (k0 := .val (x 19)) (by show (_ : Value) = _; rw [hx]) (slots_cons 20 (k0 := .val (x 20)) (by show (_ : Value) = _; rw [hx]) (slots_cons 21 (k0 := .val (x 21)) (by show (_ : Value) = _; rw [hx]) (slots_cons 22 (k0 := .val (x 22)) (by show (_ : Value) = _; rw [hx]) (slots_cons 23 (k0 := .val (x 23)) (by show (_ : Value) = _; rw [hx]) (slots_cons 24 (k0 := .val (x 24)) (by show (_ : Value) = _; rw [hx]) (slots_cons 25 (k0 := .val (x 25)) (by show (_ : Value) = _; rw [hx]) (slots_cons 26 (k0 := .val (x 26)) (by show (_ : Value) = _; rw [hx]) (slots_cons 27 (k0 := .val (x 27)) (by show (_ : Value) = _; rw [hx]) (slots_cons 28 (k0 := .val (x 28)) (by show (_ : Value) = _; rw [hx]) (slots_cons 29 (k0 := .val (x 29)) (by show (_ : Value) = _; rw [hx]) (slots_cons 30 (k0 := .val (x 30)) (by show (_ : Value) = _; rw [hx]) (slots_cons 31 (k0 := .val (x 31)) (by show (_ : Value) = _; rw [hx]) (slots_cons 32 (k0 := .val (x 32)) (by show (_ : Value) = _; rw [hx]) (slots_cons 193 (k0 := .val (x 193)) (by show (_ : Value) = _; rw [hx]) (slots_cons 990 (k0 := .sat (gP w.heap.size none)) ⟨Nat.le_refl _, fun r e => by cases e⟩ slots_nil))))))))))))))))))))))))))⟩
  refine sh8_region s0 s1 p l w.heap.size k q (.pointer (some ⟨b5, 0, none⟩)) v7 v9 x hq h ?_
  intro r a' w' hr h'
  obtain ⟨e10, hr', A', c', ht', ha'⟩ := h'.get 10 rfl
  have e0 := h'.get 0 rfl
  have e1 := h'.get 1 rfl
  have e5 := (h'.get 5 rfl).1
  have e7 := h'.get 7 rfl
  have e8 := h'.get 8 rfl
  have e9 := h'.get 9 rfl
  have e2 : a'.tmps.getD 2 undef = X2 := by have := h'.get 2 rfl; rw [hx] at this; exact this
  have e3 : a'.tmps.getD 3 undef = X3 := by have := h'.get 3 rfl; rw [hx] at this; exact this
  have e4 : a'.tmps.getD 4 undef = X4 := by have := h'.get 4 rfl; rw [hx] at this; exact this
  have e17 : a'.tmps.getD 17 undef = X17 := by have := h'.get 17 rfl; rw [hx] at this; exact this
  have e18 : a'.tmps.getD 18 undef = X18 := by have := h'.get 18 rfl; rw [hx] at this; exact this
  have e19 : a'.tmps.getD 19 undef = X19 := by have := h'.get 19 rfl; rw [hx] at this; exact this
  have e20 : a'.tmps.getD 20 undef = X20 := by have := h'.get 20 rfl; rw [hx] at this; exact this
  have e21 : a'.tmps.getD 21 undef = X21 := by have := h'.get 21 rfl; rw [hx] at this; exact this
  have e22 : a'.tmps.getD 22 undef = X22 := by have := h'.get 22 rfl; rw [hx] at this; exact this
  have e23 : a'.tmps.getD 23 undef = X23 := by have := h'.get 23 rfl; rw [hx] at this; exact this
  have e24 : a'.tmps.getD 24 undef = X24 := by have := h'.get 24 rfl; rw [hx] at this; exact this
  have e25 : a'.tmps.getD 25 undef = X25 := by have := h'.get 25 rfl; rw [hx] at this; exact this
  have e26 : a'.tmps.getD 26 undef = X26 := by have := h'.get 26 rfl; rw [hx] at this; exact this
  have e27 : a'.tmps.getD 27 undef = X27 := by have := h'.get 27 rfl; rw [hx] at this; exact this
  have e28 : a'.tmps.getD 28 undef = X28 := by have := h'.get 28 rfl; rw [hx] at this; exact this
  have e29 : a'.tmps.getD 29 undef = X29 := by have := h'.get 29 rfl; rw [hx] at this; exact this
  have e30 : a'.tmps.getD 30 undef = X30 := by have := h'.get 30 rfl; rw [hx] at this; exact this
  have e31 : a'.tmps.getD 31 undef = X31 := by have := h'.get 31 rfl; rw [hx] at this; exact this
  have e32 : a'.tmps.getD 32 undef = X32 := by have := h'.get 32 rfl; rw [hx] at this; exact this
  have e193 : a'.tmps.getD 193 undef = X193 := by have := h'.get 193 rfl; rw [hx] at this; exact this
  obtain ⟨u, hu⟩ : ∃ u : Nat → Value, u = fun i => a'.tmps.getD i undef := ⟨_, rfl⟩
  have hlit := arr194 a'.tmps h'.size
  rw [← hu, lit194] at hlit
  have f0 : u 0 = .string s0 := by rw [hu]; exact e0
  have f1 : u 1 = .string s1 := by rw [hu]; exact e1
  have f5 : u 5 = .pointer (some ⟨b5, 0, none⟩) := by rw [hu]; exact e5
  have f7 : u 7 = v7 := by rw [hu]; exact e7
  have f8 : u 8 = .int .i64 k := by rw [hu]; exact e8
  have f9 : u 9 = v9 := by rw [hu]; exact e9
  have f10 : u 10 = .pointer (some ⟨r, 0, none⟩) := by rw [hu]; exact e10
  have f2 : u 2 = X2 := by rw [hu]; exact e2
  have f3 : u 3 = X3 := by rw [hu]; exact e3
  have f4 : u 4 = X4 := by rw [hu]; exact e4
  have f17 : u 17 = X17 := by rw [hu]; exact e17
  have f18 : u 18 = X18 := by rw [hu]; exact e18
  have f19 : u 19 = X19 := by rw [hu]; exact e19
  have f20 : u 20 = X20 := by rw [hu]; exact e20
  have f21 : u 21 = X21 := by rw [hu]; exact e21
  have f22 : u 22 = X22 := by rw [hu]; exact e22
  have f23 : u 23 = X23 := by rw [hu]; exact e23
  have f24 : u 24 = X24 := by rw [hu]; exact e24
  have f25 : u 25 = X25 := by rw [hu]; exact e25
  have f26 : u 26 = X26 := by rw [hu]; exact e26
  have f27 : u 27 = X27 := by rw [hu]; exact e27
  have f28 : u 28 = X28 := by rw [hu]; exact e28
  have f29 : u 29 = X29 := by rw [hu]; exact e29
  have f30 : u 30 = X30 := by rw [hu]; exact e30
  have f31 : u 31 = X31 := by rw [hu]; exact e31
  have f32 : u 32 = X32 := by rw [hu]; exact e32
  have f193 : u 193 = X193 := by rw [hu]; exact e193
  have fin := hQ r A' c' u w' h'.world hr hr' ht' ha'
  obtain ⟨tm, df⟩ := a'
  have hdf : df = [] := h'.defers
  subst hdf
  have hlit : tm = _ := hlit
  rw [hlit, f0, f1, f5, f7, f8, f9, f10, f2, f3, f4, f17, f18, f19, f20, f21, f22, f23, f24, f25, f26, f27, f28, f29, f30, f31, f32, f193]
  exact fin
end Go.Proofs.Ytapcnehpechkpaa
