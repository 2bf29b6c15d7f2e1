/-
  Arrays of eight terms and of eight truth values, in slots.
-/
import Derived.Test.YtapcnehpechkpaaRes2
namespace Go.Proofs.Ytapcnehpechkpaa
set_option linter.unusedVariables false
set_option linter.unusedSimpArgs false
set_option maxRecDepth 100000
open Go.RowKit
/-- A pointer to a term of memory below s. -/
def oP (s : Nat) (p : Pay) (l : Fo) : Pd where
  R := fun v w => ∃ b o A c, v = .pointer (some ⟨b, o, none⟩) ∧ b < s ∧ s ≤ w.heap.size ∧ NodeAt (fun b => b < s) w b o p l A c
  keep := by
    rintro v w w' ⟨b, o, A, c, e, hb, hs, hn⟩ hbl
    exact ⟨b, o, A, c, e, hb, Nat.le_trans hs hbl.size, hn.keep (hbl.block _ (by omega)) (fun b hb' => hbl.block b (by omega)) (fun b hb' => hb')⟩
/-- An array's block s, whose cells are not yet written. -/
def aZ (s m : Nat) : Pd where
  R := fun v w => v = .pointer (some ⟨s, 0, none⟩) ∧ s < w.heap.size ∧ ∃ old t, w.heap[s]? = some (.cells old t (0, 0)) ∧ old.size = m
  keep := by
    rintro v w w' ⟨e, hs, old, t, hh, hm⟩ hbl
    exact ⟨e, Nat.lt_of_lt_of_le hs hbl.size, old, t, (hbl.block _ hs).trans hh, hm⟩
/-- An array of eight terms, whose arguments lie from n on. -/
def aB (n : Nat) (Fs : Nat → Pay × Fo) : Pd where
  R := fun v w => ∃ s, v = .pointer (some ⟨s, 0, none⟩) ∧ s + 1 < n ∧ s < w.heap.size ∧ ∀ k, k < 8 → ∃ A c, NodeAt (Ns n none w) w s (k * 4) (Fs k).1 (Fs k).2 A c
  keep := by
    rintro v w w' ⟨s, e, hn, hs, h⟩ hbl
    refine ⟨s, e, hn, Nat.lt_of_lt_of_le hs hbl.size, fun k hk => ?_⟩
    obtain ⟨A, c, hn⟩ := h k hk
    exact ⟨A, c, hn.keep (hbl.block _ hs) (fun b hb => hbl.block b hb.2.1) (fun b hb => ⟨hb.1, Nat.lt_of_lt_of_le hb.2.1 hbl.size, hb.2.2⟩)⟩
/-- An array of eight truth values. -/
def aK (ks : Nat → Bool) : Pd where
  R := fun v w => ∃ s, v = .pointer (some ⟨s, 0, none⟩) ∧ s < w.heap.size ∧ ∀ k, k < 8 → w.cell? ⟨s, k, none⟩ = some (.bool (ks k))
  keep := by
    rintro v w w' ⟨s, e, hs, h⟩ hbl
    exact ⟨s, e, Nat.lt_of_lt_of_le hs hbl.size, fun k hk => (cell_of_block (p := ⟨s, k, none⟩) (hbl.block _ hs)).trans (h k hk)⟩
/-- A pointer to a truth value. -/
def ptrK (b : Bool) : Pd where
  R := fun v w => ∃ a : Addr, v = .pointer (some a) ∧ a.block < w.heap.size ∧ w.cell? a = some (.bool b)
  keep := by
    rintro v w w' ⟨a, e, hlt, hc⟩ hb
    exact ⟨a, e, Nat.lt_of_lt_of_le hlt hb.size, (cell_of_block (hb.block _ hlt)).trans hc⟩
section
variable {ops : Array Oper} {Q : Exit → Act → World → Prop} {E : Nat → Kd} {D : Nat → Nat} {base : Nat → Option Kd} {N : Nat}
theorem Opd.ofO {i s : Nat} {x : Operand} {p : Pay} {l : Fo} (h : Opd ops E D base N i x (.sat (oP s p l))) : Opd ops E D base N i x (.ptrT p l) := fun a w hc => by
  obtain ⟨b, o, A, c, e, hb, hs, hn⟩ := h a w hc
  exact ⟨b, o, A, c, e, Nat.lt_of_lt_of_le hb hs, hn.kind, hn.num, hn.name, hn.args, hn.inn.mono fun b hb' => Nat.lt_of_lt_of_le hb' hs⟩
theorem step_aidx {i n k : Nat} {x y : Operand} {Fs : Nat → Pay × Fo} (hk : k < 8) (hop : (ops[i]?).map (·.op) = some (.indexAddr 55 x y)) (hx : Opd ops E D base N i x (.sat (aB n Fs))) (hy : Opd ops E D base N i y (.val (.int .i64 (k : Int)))) (hE : E i = .ptrT (Fs k).1 (Fs k).2) : Step Try.prog ops Q E D base N i :=
  step_still hop hE fun a w h dst ty' pos after guard => by
    obtain ⟨s, e, _, hs, hn⟩ := hx a w h
    have e' : a.eval y = .int .i64 (k : Int) := hy a w h
    obtain ⟨A, c, hnk⟩ := hn k hk
    refine ⟨.pointer (some ⟨s, k * 4, none⟩), ?_, s, k * 4, A, c, rfl, hs, hnk.kind, hnk.num, hnk.name, hnk.args, hnk.inn.mono fun b hb => hb.2.1⟩
    unfold execOp
    simp only [e, e']
    go_simp
    intro h8
    exact absurd h8 (by omega)
theorem step_kidx {i k : Nat} {x y : Operand} {ks : Nat → Bool} (hk : k < 8) (hop : (ops[i]?).map (·.op) = some (.indexAddr 56 x y)) (hx : Opd ops E D base N i x (.sat (aK ks))) (hy : Opd ops E D base N i y (.val (.int .i64 (k : Int)))) (hE : E i = .sat (ptrK (ks k))) : Step Try.prog ops Q E D base N i :=
  step_still hop hE fun a w h dst ty' pos after guard => by
    obtain ⟨s, e, hs, hn⟩ := hx a w h
    have e' : a.eval y = .int .i64 (k : Int) := hy a w h
    refine ⟨.pointer (some ⟨s, k, none⟩), ?_, _, rfl, hs, hn k hk⟩
    unfold execOp
    simp only [e, e']
    go_simp
    intro h8
    exact absurd h8 (by omega)
/-- One byte, as a row. -/
def b1P (z : Nat) : Pd where
  R := fun v w => ∃ b, v = .slice (some ⟨b, 0, none⟩) 1 1 ∧ b < w.heap.size ∧ w.cell? ⟨b, 0, none⟩ = some (.int .u8 (z : Int))
  keep := by
    rintro v w w' ⟨b, e, hlt, hc⟩ hb
    exact ⟨b, e, Nat.lt_of_lt_of_le hlt hb.size, (cell_of_block (hb.block _ hlt)).trans hc⟩
theorem step_to8 {i : Nat} {x : Operand} {z : Nat} (hz : z < 256) (hop : (ops[i]?).map (·.op) = some (.convert 3 5 x)) (hx : Opd ops E D base N i x (.val (.int .i64 (z : Int)))) (hE : E i = .val (.int .u8 (z : Int))) : Step Try.prog ops Q E D base N i :=
  step_still hop hE fun a w h dst ty' pos after guard => by
    have e : a.eval x = .int .i64 (z : Int) := hx a w h
    refine ⟨.int .u8 (z : Int), ?_, rfl⟩
    have hw : IntKind.u8.wrap (z : Int) = (z : Int) := by rw [IntKind.wrap_u8]; omega
    unfold execOp
    simp only [e]
    go_simp
theorem step_b1 {i : Nat} {x : Operand} {z : Nat} (hop : (ops[i]?).map (·.op) = some (.buildSlice 57 1 #[(0, x)])) (hx : Opd ops E D base N i x (.val (.int .u8 (z : Int)))) (hE : E i = .sat (b1P z)) : Step Try.prog ops Q E D base N i := by
  intro o ho a w hc K hK
  have hxo := op_of ho hop
  obtain ⟨dst, op, ty, pos, after, guard⟩ := o
  have hx' : op = _ := hxo
  subst hx'
  have e : a.eval x = .int .u8 (z : Int) := hx a w hc
  have hrun : (execOp a.eval ⟨dst, .buildSlice 57 1 #[(0, x)], ty, pos, after, guard⟩).run Try.prog w = .ok (.value (.slice (some ⟨w.heap.size, 0, none⟩) 1 1)) (w.alloc (.cells #[.int .u8 (z : Int)] 5)) := by
    unfold execOp
    simp only [List.map_toArray, List.map_cons, List.map_nil, e]
    go_simp
  unfold Oper.wp
  rw [hrun]
  refine hK _ _ ?_ ((Below.refl _ _).alloc (Nat.le_refl _) _)
  rw [hE]
  exact ⟨w.heap.size, rfl, by simp, (CellIs.new w (.int .u8 (z : Int)) 5).1⟩
theorem step_str1 {i : Nat} {x : Operand} {z : Nat} (hz : z < 256) (hop : (ops[i]?).map (·.op) = some (.convert 57 9 x)) (hx : Opd ops E D base N i x (.sat (b1P z))) (hE : E i = .val (.string ⟨#[UInt8.ofNat z]⟩)) : Step Try.prog ops Q E D base N i :=
  step_still hop hE fun a w h dst ty' pos after guard => by
    obtain ⟨b, e, hb, hc⟩ := hx a w h
    refine ⟨.string ⟨#[UInt8.ofNat z]⟩, ?_, rfl⟩
    have h1 := run_convert_bytes_back (P := Try.prog) w 57 9 5 ⟨b, 0, none⟩ 1 [UInt8.ofNat z] Try.underlying57 Try.underlying5 Try.underlying9 (by
      intro j hj
      obtain rfl : j = 0 := by simpa using hj
      rw [show Addr.add ⟨b, 0, none⟩ 0 = ⟨b, 0, none⟩ from rfl, hc]
      have : (UInt8.ofNat z).toNat = z := by simp [UInt8.toNat_ofNat]; omega
      simp [this])
    have h1 : (convert 57 9 (.slice (some ⟨b, 0, none⟩) 1 1)).run Try.prog w = .ok (.string ⟨#[UInt8.ofNat z]⟩) w := h1
    unfold execOp
    simp only [e, h1, Sem.run_bind, Sem.run_pure, Result.andThen_ok]
theorem step_kload {i : Nat} {x : Operand} {b : Bool} (hop : (ops[i]?).map (·.op) = some (.load 4 x)) (hx : Opd ops E D base N i x (.sat (ptrK b))) (hE : E i = .val (.bool b)) : Step Try.prog ops Q E D base N i :=
  step_still hop hE fun a w h dst ty' pos after guard => by
    obtain ⟨ad, e, hb, hc⟩ := hx a w h
    refine ⟨.bool b, ?_, rfl⟩
    unfold execOp
    simp only [e]
    go_simp
end
section
variable {ops : Array Oper} {Q : Exit → Act → World → Prop} {N : Nat} {env : Env} {w0 w : World} {a : Act}
theorem wpOps_allocB {i d : Nat} {rest : List Nat} (hop : (ops[i]?).map (fun o => (o.op, o.dst, o.guard)) = some (.alloc 55, some d, none))
    (h : wpOps Try.prog ops Q rest (a.put (some d) (.pointer (some ⟨w.heap.size, 0, none⟩))) (w.alloc (.cells #[.int .i64 0, .int .i64 0, .string ⟨#[]⟩, .slice none 0 0, .int .i64 0, .int .i64 0, .string ⟨#[]⟩, .slice none 0 0, .int .i64 0, .int .i64 0, .string ⟨#[]⟩, .slice none 0 0, .int .i64 0, .int .i64 0, .string ⟨#[]⟩, .slice none 0 0, .int .i64 0, .int .i64 0, .string ⟨#[]⟩, .slice none 0 0, .int .i64 0, .int .i64 0, .string ⟨#[]⟩, .slice none 0 0, .int .i64 0, .int .i64 0, .string ⟨#[]⟩, .slice none 0 0, .int .i64 0, .int .i64 0, .string ⟨#[]⟩, .slice none 0 0] 55))) : wpOps Try.prog ops Q (i :: rest) a w := by
  cases ho : ops[i]? with
  | none => rw [ho] at hop; cases hop
  | some o =>
  rw [ho] at hop
  have hop := Option.some.inj hop
  obtain ⟨dst, op, ty, pos, after, guard⟩ := o
  simp only [Prod.mk.injEq] at hop
  obtain ⟨e1, e2, e3⟩ := hop
  subst e1 e2 e3
  simp only [wpOps, ho, wanted_free (o := ⟨some d, .alloc 55, ty, pos, after, none⟩) rfl, if_true]
  refine .inl ?_
  have hrun : (execOp a.eval ⟨some d, .alloc 55, ty, pos, after, none⟩).run Try.prog w = .ok (.value (.pointer (some ⟨w.heap.size, 0, none⟩))) (w.alloc (.cells #[.int .i64 0, .int .i64 0, .string ⟨#[]⟩, .slice none 0 0, .int .i64 0, .int .i64 0, .string ⟨#[]⟩, .slice none 0 0, .int .i64 0, .int .i64 0, .string ⟨#[]⟩, .slice none 0 0, .int .i64 0, .int .i64 0, .string ⟨#[]⟩, .slice none 0 0, .int .i64 0, .int .i64 0, .string ⟨#[]⟩, .slice none 0 0, .int .i64 0, .int .i64 0, .string ⟨#[]⟩, .slice none 0 0, .int .i64 0, .int .i64 0, .string ⟨#[]⟩, .slice none 0 0, .int .i64 0, .int .i64 0, .string ⟨#[]⟩, .slice none 0 0] 55)) := by
    unfold execOp
    go_simp
  unfold Oper.wp
  rw [hrun]
  exact h
theorem wpOps_allocK {i d : Nat} {rest : List Nat} (hop : (ops[i]?).map (fun o => (o.op, o.dst, o.guard)) = some (.alloc 56, some d, none))
    (h : wpOps Try.prog ops Q rest (a.put (some d) (.pointer (some ⟨w.heap.size, 0, none⟩))) (w.alloc (.cells #[.bool false, .bool false, .bool false, .bool false, .bool false, .bool false, .bool false, .bool false] 56))) : wpOps Try.prog ops Q (i :: rest) a w := by
  cases ho : ops[i]? with
  | none => rw [ho] at hop; cases hop
  | some o =>
  rw [ho] at hop
  have hop := Option.some.inj hop
  obtain ⟨dst, op, ty, pos, after, guard⟩ := o
  simp only [Prod.mk.injEq] at hop
  obtain ⟨e1, e2, e3⟩ := hop
  subst e1 e2 e3
  simp only [wpOps, ho, wanted_free (o := ⟨some d, .alloc 56, ty, pos, after, none⟩) rfl, if_true]
  refine .inl ?_
  have hrun : (execOp a.eval ⟨some d, .alloc 56, ty, pos, after, none⟩).run Try.prog w = .ok (.value (.pointer (some ⟨w.heap.size, 0, none⟩))) (w.alloc (.cells #[.bool false, .bool false, .bool false, .bool false, .bool false, .bool false, .bool false, .bool false] 56)) := by
    unfold execOp
    go_simp
  unfold Oper.wp
  rw [hrun]
  exact h
/-- Building an aggregate and storing it in a whole block. -/
theorem wpOps_buildStore {i j d x g : Nat} {t tt : TypeId} {parts : Array (Nat × Operand)} {rest : List Nat} {old cells : Array Value} (hop : (ops[i]?).map (fun o => (o.op, o.dst, o.guard)) = some (.build t parts, some d, none)) (hop2 : (ops[j]?).map (fun o => (o.op, o.dst, o.guard)) = some (.store t (.tmp x) (.tmp d), none, none))
    (hf : Try.prog.built t (parts.map fun (i, x) => (i, a.eval x)).toList = some cells) (hd : d < a.tmps.size) (hxd : x ≠ d) (hx : a.tmps.getD x undef = .pointer (some ⟨g, 0, none⟩)) (hg : w.heap[g]? = some (.cells old tt (0, 0))) (hi : (Try.prog.info? t).map (·.size) = some cells.size) (hold : old.size = cells.size) (h1 : cells.all (·.oneCell') = true)
    (h : wpOps Try.prog ops Q rest (a.put (some d) (.agg cells)) (w.setRow g cells)) : wpOps Try.prog ops Q (i :: j :: rest) a w := by
  cases ho : ops[i]? with
  | none => rw [ho] at hop; cases hop
  | some o =>
  cases ho2 : ops[j]? with
  | none => rw [ho2] at hop2; cases hop2
  | some o2 =>
  rw [ho] at hop
  rw [ho2] at hop2
  have hop := Option.some.inj hop
  have hop2 := Option.some.inj hop2
  obtain ⟨dst, op, ty, pos, after, guard⟩ := o
  obtain ⟨dst2, op2, ty2, pos2, after2, guard2⟩ := o2
  simp only [Prod.mk.injEq] at hop hop2
  obtain ⟨e1, e2, e3⟩ := hop
  obtain ⟨f1, f2, f3⟩ := hop2
  subst e1 e2 e3 f1 f2 f3
  simp only [wpOps, ho, ho2, wanted_free (o := ⟨some d, .build t parts, ty, pos, after, none⟩) rfl, if_true]
  refine .inl (wp_build t parts rfl (by rw [hf]; rfl) ?_)
  rw [hf]
  simp only [wanted_free (o := ⟨none, .store t (.tmp x) (.tmp d), ty2, pos2, after2, none⟩) rfl, if_true]
  refine .inl (wp_store_row t (.tmp x) (.tmp d) rfl g cells ?_ ?_ tt old hg hi hold h1 ?_)
  · show (a.put (some d) _).tmps.getD x undef = _
    rw [put_other hxd]
    exact hx
  · show (a.put (some d) _).tmps.getD d undef = _
    rw [put_self hd]
    rfl
  · exact h
theorem built_terms (p0 : Pay) (A0 : Option Addr) (n0 c0 : Nat) (p1 : Pay) (A1 : Option Addr) (n1 c1 : Nat) (p2 : Pay) (A2 : Option Addr) (n2 c2 : Nat) (p3 : Pay) (A3 : Option Addr) (n3 c3 : Nat) (p4 : Pay) (A4 : Option Addr) (n4 c4 : Nat) (p5 : Pay) (A5 : Option Addr) (n5 c5 : Nat) (p6 : Pay) (A6 : Option Addr) (n6 c6 : Nat) (p7 : Pay) (A7 : Option Addr) (n7 c7 : Nat) : Try.prog.built 55 [(0, tv p0 A0 n0 c0), (1, tv p1 A1 n1 c1), (2, tv p2 A2 n2 c2), (3, tv p3 A3 n3 c3), (4, tv p4 A4 n4 c4), (5, tv p5 A5 n5 c5), (6, tv p6 A6 n6 c6), (7, tv p7 A7 n7 c7)] = some #[.int .i64 p0.1, .int .i64 p0.2.1, .string p0.2.2, .slice A0 n0 c0, .int .i64 p1.1, .int .i64 p1.2.1, .string p1.2.2, .slice A1 n1 c1, .int .i64 p2.1, .int .i64 p2.2.1, .string p2.2.2, .slice A2 n2 c2, .int .i64 p3.1, .int .i64 p3.2.1, .string p3.2.2, .slice A3 n3 c3, .int .i64 p4.1, .int .i64 p4.2.1, .string p4.2.2, .slice A4 n4 c4, .int .i64 p5.1, .int .i64 p5.2.1, .string p5.2.2, .slice A5 n5 c5, .int .i64 p6.1, .int .i64 p6.2.1, .string p6.2.2, .slice A6 n6 c6, .int .i64 p7.1, .int .i64 p7.2.1, .string p7.2.2, .slice A7 n7 c7] := by kernel_rfl
theorem built_bools (b0 b1 b2 b3 b4 b5 b6 b7 : Bool) : Try.prog.built 56 [(0, .bool b0), (1, .bool b1), (2, .bool b2), (3, .bool b3), (4, .bool b4), (5, .bool b5), (6, .bool b6), (7, .bool b7)] = some #[.bool b0, .bool b1, .bool b2, .bool b3, .bool b4, .bool b5, .bool b6, .bool b7] := by kernel_rfl
end
end Go.Proofs.Ytapcnehpechkpaa
