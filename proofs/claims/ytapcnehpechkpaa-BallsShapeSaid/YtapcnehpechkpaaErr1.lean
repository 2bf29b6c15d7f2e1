/-
  The statements' error1, to the block: what the culprit's place has to do with the result's.
-/
import Derived.Test.YtapcnehpechkpaaLaw6
namespace Go.Proofs.Ytapcnehpechkpaa
set_option linter.unusedVariables false
set_option linter.unusedSimpArgs false
set_option maxRecDepth 100000
open Go.RowKit

theorem wpOps_one {ops : Array Oper} {Q : Exit → Act → World → Prop} {i : Nat} {o : Oper} {rest : List Nat} {a : Act} {w : World} (ho : ops[i]? = some o) (hg : o.guard = none) (h : o.wp Try.prog a w (wpOps Try.prog ops Q rest) Q) : wpOps Try.prog ops Q (i :: rest) a w := by
  rw [wpOps_cons]
  unfold wpOp
  rw [ho]
  simp only [wanted_free hg, if_true]
  exact .inl h
theorem wp_run {Q : Exit → Act → World → Prop} {o : Oper} {a : Act} {w w' : World} {v : Value} {K : Act → World → Prop} (hr : (execOp a.eval o).run Try.prog w = .ok (.value v) w') (hk : K (a.put o.dst v) w') : o.wp Try.prog a w K Q := by
  unfold Oper.wp
  rw [hr]
  exact hk
theorem wp_skips {Q : Exit → Act → World → Prop} {op : Op} {ty : TypeId} {pos : String} {after : Array Edge} {guard : Option (Nat × Bool)} {a : Act} {w w' : World} {K : Act → World → Prop} (hr : (execOp a.eval ⟨none, op, ty, pos, after, guard⟩).run Try.prog w = .ok .skip w') (hk : K a w') : Oper.wp Try.prog ⟨none, op, ty, pos, after, guard⟩ a w K Q := by
  unfold Oper.wp
  rw [hr]
  exact hk
/-- A new block that holds two terms' values. -/
structure Two (n : Nat) (G : Option Nat) (x y : Value) (w : World) (b : Nat) : Prop where
  lo : n ≤ b
  hi : b < w.heap.size
  ne : G ≠ some b
  cells : ∀ j u, (tcells [x, y])[j]? = some u → w.cell? ⟨b, j, none⟩ = some u
theorem Two.keep {n : Nat} {G : Option Nat} {x y : Value} {w w' : World} {b : Nat} (h : Two n G x y w b) (hb : w'.heap[b]? = w.heap[b]?) (hs : w.heap.size ≤ w'.heap.size) : Two n G x y w' b :=
  ⟨h.lo, Nat.lt_of_lt_of_le h.hi hs, h.ne, fun j u hu => (cell_of_block (p := ⟨b, j, none⟩) hb).trans (h.cells j u hu)⟩
def ptrV (p : Pay) (A : Option Addr) (n c : Nat) : Pd where
  R := fun v w => ∃ b, v = .pointer (some ⟨b, 0, none⟩) ∧ b < w.heap.size ∧ TermAt w b p A n c
  keep := by rintro v w w' ⟨b, e, hlt, ht⟩ hb; exact ⟨b, e, Nat.lt_of_lt_of_le hlt hb.size, ht.same (hb.block _ hlt)⟩
def rowV (n : Nat) (G : Option Nat) (x y : Value) : Pd where
  R := fun v w => ∃ b, v = .slice (some ⟨b, 0, none⟩) 2 2 ∧ Two n G x y w b
  keep := by rintro v w w' ⟨b, e, h⟩ hb; exact ⟨b, e, h.keep (hb.block _ h.hi) hb.size⟩
def termV (n : Nat) (G : Option Nat) (s : ByteArray) (x y : Value) : Pd where
  R := fun v w => ∃ b, v = tv (3, 0, s) (some ⟨b, 0, none⟩) 2 2 ∧ Two n G x y w b
  keep := by rintro v w w' ⟨b, e, h⟩ hb; exact ⟨b, e, h.keep (hb.block _ h.hi) hb.size⟩
theorem turns_pd (r : Nat) (K : Pd) : Turns r (.sat K) (.sat K) := fun v w o _ h => K.keep v w _ h ((Below.refl _ _).alloc (Nat.le_refl _) _)
section
variable {ops : Array Oper} {Q : Exit → Act → World → Prop} {E : Nat → Kd} {D : Nat → Nat} {base : Nat → Option Kd} {N : Nat}
theorem step_boxV {i : Nat} {x : Operand} {p : Pay} {A : Option Addr} {n c : Nat} (hop : (ops[i]?).map (·.op) = some (.box 24 x)) (hx : Opd ops E D base N i x (.val (tv p A n c))) (hE : E i = .sat (ptrV p A n c)) : Step Try.prog ops Q E D base N i := by
  intro o ho a w hc K hK
  have hxo := op_of ho hop
  obtain ⟨dst, op, ty, pos, after, guard⟩ := o
  have hx' : op = _ := hxo
  subst hx'
  have e : a.eval x = tv p A n c := hx a w hc
  have hrun : (execOp a.eval ⟨dst, .box 24 x, ty, pos, after, guard⟩).run Try.prog w = .ok (.value (.pointer (some ⟨w.heap.size, 0, none⟩))) (w.alloc (.cells #[.int .i64 p.1, .int .i64 p.2.1, .string p.2.2, .slice A n c] 24)) := by
    unfold execOp
    simp only [e]
    go_simp
  unfold Oper.wp
  rw [hrun]
  exact hK _ _ (hE ▸ ⟨w.heap.size, rfl, by simp, TermAt.new w p A n c 24⟩) ((Below.refl _ _).alloc (Nat.le_refl _) _)
theorem step_loadV {i : Nat} {x : Operand} {p : Pay} {A : Option Addr} {n c : Nat} (hop : (ops[i]?).map (·.op) = some (.load 24 x)) (hx : Opd ops E D base N i x (.sat (ptrV p A n c))) (hE : E i = .val (tv p A n c)) : Step Try.prog ops Q E D base N i :=
  step_still hop hE fun a w h dst ty' pos after guard => by
    obtain ⟨b, e, hb, hn⟩ := hx a w h
    refine ⟨tv p A n c, ?_, rfl⟩
    have h0 := hn.kind
    have h1 := hn.num
    have h2 := hn.name
    have h3 := hn.args
    unfold execOp
    simp only [e]
    go_simp
theorem step_laV {i : Nat} {x : Operand} {s : ByteArray} (hop : (ops[i]?).map (·.op) = some (.call { callee := .value (.func 53), args := #[x], argTypes := #[9] })) (hx : Opd ops E D base N i x (.val (.string s))) (hE : E i = .val (tv (2, 0, s) none 0 0)) : Step Try.prog ops Q E D base N i :=
  step_call hop (fun _ _ => by kernel_rfl) fun a w h => by
    have e : a.eval x = .string s := hx a w h
    rw [show (#[x] : Array Operand).map a.eval = #[.string s] by rw [← e]; simp]
    exact (a_any s w).mono fun e w' ⟨he, hbl⟩ => ⟨_, he, by rw [hE]; rfl, hbl⟩
theorem step_sliceV {i n g : Nat} {G : Option Nat} {x0 x1 : Operand} {p0 p1 : Pay} {A0 A1 : Option Addr} {n0 c0 n1 c1 : Nat} (hop : (ops[i]?).map (·.op) = some (.buildSlice 22 2 #[(0, x0), (1, x1)])) (h0 : Opd ops E D base N i x0 (.val (tv p0 A0 n0 c0))) (h1 : Opd ops E D base N i x1 (.val (tv p1 A1 n1 c1))) (hg : Opd ops E D base N i (.tmp g) (.sat (gP n G))) (hE : E i = .sat (rowV n G (tv p0 A0 n0 c0) (tv p1 A1 n1 c1))) : Step Try.prog ops Q E D base N i := by
  intro o ho a w hc K hK
  have hxo := op_of ho hop
  obtain ⟨dst, op, ty, pos, after, guard⟩ := o
  have hx' : op = _ := hxo
  subst hx'
  have hgg : n ≤ w.heap.size ∧ ∀ r, G = some r → r < w.heap.size := hg a w hc
  have e0 : a.eval x0 = tv p0 A0 n0 c0 := h0 a w hc
  have e1 : a.eval x1 = tv p1 A1 n1 c1 := h1 a w hc
  have hrun : (execOp a.eval ⟨dst, .buildSlice 22 2 #[(0, x0), (1, x1)], ty, pos, after, guard⟩).run Try.prog w = .ok (.value (.slice (some ⟨w.heap.size, 0, none⟩) 2 2)) (w.alloc (.cells (tcells [tv p0 A0 n0 c0, tv p1 A1 n1 c1]).toArray 24)) := by
    unfold execOp
    simp only [List.map_toArray, List.map_cons, List.map_nil, e0, e1]
    go_simp
    rfl
  unfold Oper.wp
  rw [hrun]
  have hb := alloc_new w (.cells (tcells [tv p0 A0 n0 c0, tv p1 A1 n1 c1]).toArray 24)
  refine hK _ _ (hE ▸ ⟨w.heap.size, rfl, hgg.1, by simp, fun e => by have := hgg.2 _ e; omega, fun j u hu => ?_⟩) ((Below.refl _ _).alloc (Nat.le_refl _) _)
  rw [cell_of_row _ _ _ _ _ _ hb]
  simpa using hu
theorem step_lfV {i n : Nat} {G : Option Nat} {x y : Operand} {s : ByteArray} {u v : Value} (hop : (ops[i]?).map (·.op) = some (.call { callee := .value (.func 58), args := #[x, y], argTypes := #[9, 22] })) (hx : Opd ops E D base N i x (.val (.string s))) (hy : Opd ops E D base N i y (.sat (rowV n G u v))) (hE : E i = .sat (termV n G s u v)) : Step Try.prog ops Q E D base N i :=
  step_call hop (fun _ _ => by kernel_rfl) fun a w h => by
    have e0 : a.eval x = .string s := hx a w h
    obtain ⟨b, e, ht⟩ := hy a w h
    rw [show (#[x, y] : Array Operand).map a.eval = #[.string s, .slice (some ⟨b, 0, none⟩) 2 2] by rw [← e0, ← e]; simp]
    exact (f_any s _ 2 2 w).mono fun e w' ⟨he, hbl⟩ => ⟨_, he, by rw [hE]; exact ⟨b, rfl, ht.keep (hbl.block _ ht.hi) hbl.size⟩, hbl⟩
end
def e1Es (p : Pay) (A : Option Addr) (n c nb r : Nat) : List Kd := [.val (tv p A n c), .val (tv Tm.emptyA none 0 0), .sat (rowV nb (some r) (tv p A n c) (tv Tm.emptyA none 0 0)), .sat (termV nb (some r) Tm.errName (tv p A n c) (tv Tm.emptyA none 0 0))]
def e1Ds : List Nat := [3, 4, 5, 6]
def e1Env (p : Pay) (A : Option Addr) (n c nb r : Nat) : Env := [(2, .sat (rC nb r zp .nil)), (990, .sat (gP nb (some r))), (1, .sat (ptrV p A n c))]
section
variable {Q : Exit → Act → World → Prop} (p : Pay) (A : Option Addr) (n c nb r : Nat)
abbrev E1S (Q : Exit → Act → World → Prop) (p : Pay) (A : Option Addr) (n c nb r i : Nat) : Prop := RStep (strip lerr1Ops) Q (fun i => ((e1Es p A n c nb r)[i]?).getD .any) (fun i => (e1Ds[i]?).getD (1000 + i)) (look (e1Env p A n c nb r)) 7 i
theorem e1_0 : E1S Q p A n c nb r 0 := fun _ => step_loadV (by kernel_rfl) (Opd.of_base 1 rfl) rfl
theorem e1_1 : E1S Q p A n c nb r 1 := fun _ => step_laV (by kernel_rfl) (Opd.const _) rfl
theorem e1_2 : E1S Q p A n c nb r 2 := fun _ => step_sliceV (g := 990) (by kernel_rfl) (Opd.dep 0 rfl rfl (by kernel_rfl)) (Opd.dep 1 rfl rfl (by kernel_rfl)) (Opd.of_base 990 rfl) rfl
theorem e1_3 : E1S Q p A n c nb r 3 := fun _ => step_lfV (by kernel_rfl) (Opd.const _) (Opd.dep 2 rfl rfl (by kernel_rfl)) rfl
end
set_option maxHeartbeats 1000000 in
theorem error1_exact (p : Pay) (A : Option Addr) (n c : Nat) (w : World) : Calls Try.prog 56 #[tv p A n c] w fun e w' => ∃ b, e = .returned (tv (3, 0, Tm.errName) (some ⟨b, 0, none⟩) 2 2) ∧ Two w.heap.size none (tv p A n c) (tv Tm.emptyA none 0 0) w' b ∧ Below w.heap.size w w' := by
  refine calls_of_wp Try.func56 lerr_body ?_
  obtain ⟨v0, hv0⟩ : ∃ v : Value, v = tv p A n c := ⟨_, rfl⟩
  rw [← hv0]
  have hk0 : (Kd.val (tv p A n c)).R v0 w := hv0
  have hsN : (#[v0] ++ Array.replicate (Try.f56.ntmps - #[v0].size) undef : Array Value).size = 7 := by kernel_rfl
  have gs0 : (#[v0] ++ Array.replicate (Try.f56.ntmps - #[v0].size) undef : Array Value).getD 0 undef = v0 := by kernel_rfl
  generalize (#[v0] ++ Array.replicate (Try.f56.ntmps - #[v0].size) undef : Array Value) = tm at hsN gs0 ⊢
  have h : Hold 7 [(0, .val (tv p A n c))] w ⟨tm, []⟩ w := ⟨hsN, rfl, Below.refl _ _, slots_cons 0 (by rw [gs0]; exact hk0) slots_nil⟩
  obtain ⟨nb, hnb⟩ : ∃ nb, nb = w.heap.size := ⟨_, rfl⟩
  have hn : nb ≤ w.heap.size := by omega
  refine wp_seq ?_
  refine region_seq (w0 := w) 2 (by kernel_rfl) ?_
  rw [show List.range 2 = [0, 1] from rfl]
  refine env_one (i := 0) (d := 1) (k := .sat (ptrV p A n c)) (step_boxV (by kernel_rfl) (Opd.of_base 0 rfl) rfl) (by kernel_rfl) (by decide) h ?_
  clear h
  intro a w1 h
  refine env_res (i := 1) (d := 2) (n := nb) (fun r => [(1, .sat (ptrV p A n c))]) (by kernel_rfl) (by decide) (by decide) hn (fun r => (goes_cons 1 rfl (turns_pd _ _) (goes_nil _ _))) h ?_
  clear h
  intro r a w1 hr h
  show Code.wp _ _ _ a w1
  refine wp_seq ?_
  have h := h.keep [2, 990, 1]
  have hall : ∀ i, i < 0 → ∀ Q : Exit → Act → World → Prop, E1S Q p A n c nb r i := fun i hi => absurd hi (by omega)
  have hall := below_succ hall (fun Q => e1_0 p A n c nb r)
  have hall := below_succ hall (fun Q => e1_1 p A n c nb r)
  have hall := below_succ hall (fun Q => e1_2 p A n c nb r)
  have hall := below_succ hall (fun Q => e1_3 p A n c nb r)
  refine env_then (m := 4) (n := 5) e1Ds (e1Es p A n c nb r) rfl (by kernel_rfl) (by decide) (by kernel_rfl) (of_decide_eq_true (by kernel_rfl)) (by kernel_rfl) (by kernel_rfl) (fun i_ hi_ => hall i_ hi_ _) h fun a w2 h => ?_
  clear hall
  show wpOps Try.prog _ _ [4] a w2
  obtain ⟨ex, hrw, hsoft, A0, c0, ht, _⟩ := h.slots 2 _ rfl
  obtain ⟨b, ey, h2⟩ := h.slots 6 _ rfl
  have hbr : b ≠ r := fun e => h2.ne (by rw [e])
  cases ho : lerr1Ops[4]? with
  | none =>
    have : (lerr1Ops[4]?).isSome = true := by kernel_rfl
    rw [ho] at this
    cases this
  | some o =>
  have hop : (lerr1Ops[4]?).map (fun o => (o.op, o.dst, o.guard)) = some (.store 24 (.tmp 2) (.tmp 6), none, none) := by kernel_rfl
  rw [ho] at hop
  have hop := Option.some.inj hop
  obtain ⟨dst, op, ty, pos, after, guard⟩ := o
  simp only [Prod.mk.injEq] at hop
  obtain ⟨e1, e2, e3⟩ := hop
  subst e1 e2 e3
  have hrun := run_store_at (a := a) (x := .tmp 2) (y := .tmp 6) (ty := ty) (pos := pos) (after := after) (guard := none) w2 r (3, 0, Tm.errName) (some ⟨b, 0, none⟩) 2 2 ex ey ht.four hsoft
  have sd := stored w2 r (3, 0, Tm.errName) zp (some ⟨b, 0, none⟩) A0 2 2 (Tm.len .nil) c0 ht hsoft
  refine wpOps_one ho rfl (wp_skips hrun ?_)
  show Code.wp _ _ _ _ _
  refine wp_ret ?_
  (try simp only [then_ret, block_ret])
  refine bodyPost_ret (term_result (q := 2) rfl _ _ r (3, 0, Tm.errName) (some ⟨b, 0, none⟩) 2 2 ex sd.term) h.defers ?_
  have h3 := h2.keep (w' := set4 w2 r 0 (3, 0, Tm.errName) (some ⟨b, 0, none⟩) 2 2) (sd.block b hbr) (Nat.le_of_eq sd.size.symm)
  exact ⟨b, rfl, ⟨by rw [← hnb]; exact h3.lo, h3.hi, (fun e => by cases e), by rw [hv0]; exact h3.cells⟩, sd.below _ _ h.world hr⟩
/-- So the result avoids what the culprit avoids. -/
theorem lerrN_any (p : Pay) (l : Fo) (A : Option Addr) (c n : Nat) (G : Option Nat) (w : World) (hA : ArgsIn (Ns n G w) w A (Tm.len l) l) (hg : n ≤ w.heap.size ∧ ∀ r, G = some r → r < w.heap.size) :
    Calls Try.prog 56 #[tv p A (Tm.len l) c] w fun e w' => ∃ A' c', e = .returned (tv (3, 0, Tm.errName) A' (Tm.len (.node p l (.node Tm.emptyA .nil .nil))) c') ∧ ArgsIn (Ns n G w') w' A' (Tm.len (.node p l (.node Tm.emptyA .nil .nil))) (.node p l (.node Tm.emptyA .nil .nil)) ∧ Below w.heap.size w w' :=
  (error1_exact p A (Tm.len l) c w).mono fun e w' ⟨b, he, h2, hb⟩ => by
    refine ⟨some ⟨b, 0, none⟩, 2, he, ?_, hb⟩
    have hv : Vals (Ns n G w') w' [tv p A (Tm.len l) c, tv Tm.emptyA none (Tm.len .nil) 0] (.node p l (.node Tm.emptyA .nil .nil)) := ⟨⟨A, c, rfl, hA.ns hb⟩, ⟨none, 0, rfl, ArgsIn.nil _ _ _⟩, trivial⟩
    exact Vals.args (b := b) (o := 0) (S := Ns n G w') (ns_new hg h2.lo h2.hi) hv (by simp) (fun j u hu => by rw [Nat.zero_add]; exact h2.cells j u hu)
section
variable {ops : Array Oper} {Q : Exit → Act → World → Prop} {E : Nat → Kd} {D : Nat → Nat} {base : Nat → Option Kd} {N : Nat}
theorem step_lerrN {i n g : Nat} {G : Option Nat} {x : Operand} {p : Pay} {l : Fo} (hop : (ops[i]?).map (·.op) = some (.call { callee := .value (.func 56), args := #[x], argTypes := #[24] })) (hx : Opd ops E D base N i x (.sat (nT n G p l))) (hg : Opd ops E D base N i (.tmp g) (.sat (gP n G))) (hE : E i = .sat (nT n G (3, 0, Tm.errName) (.node p l (.node Tm.emptyA .nil .nil)))) : Step Try.prog ops Q E D base N i :=
  step_call hop (fun _ _ => by kernel_rfl) fun a w h => by
    obtain ⟨A, c, e, ha⟩ := hx a w h
    rw [show (#[x] : Array Operand).map a.eval = #[tv p A (Tm.len l) c] by rw [← e]; simp]
    exact (lerrN_any p l A c n G w ha (hg a w h)).mono fun e w' ⟨A', c', he, ha', hbl⟩ => ⟨_, he, by rw [hE]; exact ⟨A', c', rfl, ha'⟩, hbl⟩
end
end Go.Proofs.Ytapcnehpechkpaa
