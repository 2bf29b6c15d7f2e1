/-
  The statement OrderArguments, as its function.
-/
import Derived.Test.YtcjakmafojbhlaaDoorMLawRanks
import Derived.Test.YtcjakmafojbhlaaDoorPartI
namespace Go.Proofs.YtcjakmafojbhlaaDoor
set_option linter.unusedVariables false
set_option linter.unusedSimpArgs false
open Go.RowKit
noncomputable def la0Ops : Array Oper := ((Tryd.f7.body).bind (findReg 0)).getD #[]
noncomputable def la1Ops : Array Oper := ((Tryd.f7.body).bind (findReg 1)).getD #[]
noncomputable def la2Ops : Array Oper := ((Tryd.f7.body).bind (findReg 2)).getD #[]
noncomputable def la3Ops : Array Oper := ((Tryd.f7.body).bind (findReg 3)).getD #[]
noncomputable def la4Ops : Array Oper := ((Tryd.f7.body).bind (findReg 4)).getD #[]
noncomputable def la5Ops : Array Oper := ((Tryd.f7.body).bind (findReg 5)).getD #[]
noncomputable def la6Ops : Array Oper := ((Tryd.f7.body).bind (findReg 6)).getD #[]
noncomputable def la7Ops : Array Oper := ((Tryd.f7.body).bind (findReg 7)).getD #[]
noncomputable def la8Ops : Array Oper := ((Tryd.f7.body).bind (findReg 8)).getD #[]
noncomputable def la9Ops : Array Oper := ((Tryd.f7.body).bind (findReg 9)).getD #[]
noncomputable def la10Ops : Array Oper := ((Tryd.f7.body).bind (findReg 10)).getD #[]
noncomputable def la11Ops : Array Oper := ((Tryd.f7.body).bind (findReg 11)).getD #[]
noncomputable def la12Ops : Array Oper := ((Tryd.f7.body).bind (findReg 12)).getD #[]
noncomputable def la13Ops : Array Oper := ((Tryd.f7.body).bind (findReg 13)).getD #[]
noncomputable def la14Ops : Array Oper := ((Tryd.f7.body).bind (findReg 14)).getD #[]
noncomputable def la15Ops : Array Oper := ((Tryd.f7.body).bind (findReg 15)).getD #[]
theorem la_body : Tryd.f7.body = some (.seq (.region 0 la0Ops false) (.seq (.region 1 la1Ops false) (.seq (.seq (.region 2 la2Ops false) (.cond (.tmp 22) (.region 3 la3Ops false) .skip)) (.seq (.region 4 la4Ops false) (.seq (.region 5 la5Ops false) (.seq (.region 6 la6Ops true) (.seq (.seq (.region 7 la7Ops false) (.cond (.tmp 42) (.seq (.region 8 la8Ops false) .ret) .skip)) (.seq (.seq (.region 9 la9Ops true) (.cond (.tmp 50) (.seq (.region 10 la10Ops false) .ret) .skip)) (.seq (.region 11 la11Ops false) (.seq (.seq (.region 12 la12Ops false) (.cond (.tmp 65) (.seq (.region 13 la13Ops false) .ret) .skip)) (.seq (.region 14 la14Ops false) (.seq (.region 15 la15Ops false) .ret)))))))))))) := by kernel_rfl
def laBase (p : Pay) (l : Fo) (q : Pay) (m : Fo) (s : ByteArray) (z : Nat) : Env := [(5, Kd.ptrT p l), (6, .ptrT q m), (7, .sat (varP (.string s))), (4, .val (.int .u8 (z : Int))), (999, .tabs)]
theorem laBase_ne {p q : Pay} {l m : Fo} {s : ByteArray} {z d : Nat} (hd : 7 < d) (hd2 : d < 990) : ∀ t k, look (laBase p l q m s z) t = some k → t ≠ d := by
  intro t k hk
  unfold look laBase at hk
  obtain ⟨e, he, _⟩ := Option.map_eq_some_iff.1 hk
  have h1 := List.find?_some he
  have h2 := List.mem_of_find?_eq_some he
  have h3 : e.1 = t := by simpa using h1
  simp only [List.mem_cons, List.not_mem_nil, or_false] at h2
  rcases h2 with rfl | rfl | rfl | rfl | rfl <;> (subst h3; dsimp only; omega)
/-- What l's variable holds. -/
structure LC (wz : World) (pl : Nat) (A : Option Addr) (n c : Nat) (L : Fo) (a : Act) (w : World) : Prop where
  s11 : a.tmps.getD 11 undef = .pointer (some ⟨pl, 0, none⟩)
  lo : wz.heap.size ≤ pl
  cell : CellIs w pl (.slice A n c)
  row : ArgsB w pl A n L
  nc : n ≤ c
  c63 : c ≤ 9223372036854775807
  hA : A = none → c = 0
  hA2 : ∀ ad, A = some ad → ad.spot = none
/-- few's row, with its capacity. -/
def fewCP (F : Fo) : Pd where
  R := fun v w => ∃ A c, v = .slice A (Tm.len F) c ∧ ArgsB w w.heap.size A (Tm.len F) F ∧ Tm.len F ≤ c ∧ c ≤ 9223372036854775807 ∧ (A = none → c = 0) ∧ (∀ ad, A = some ad → ad.spot = none)
  keep := by
    rintro v w w' ⟨A, c, e, ha, h⟩ hb
    exact ⟨A, c, e, (ha.below hb (Nat.le_refl _)).up hb.size, h⟩
theorem step_fewC {ops : Array Oper} {Q : Exit → Act → World → Prop} {E : Nat → Kd} {D : Nat → Nat} {base : Nat → Option Kd} {N : Nat} {i : Nat} {x : Operand} {F : Fo} (hop : (ops[i]?).map (·.op) = some (.call { callee := .value (.func 15), args := #[x], argTypes := #[22] })) (hx : Opd ops E D base N i x (.row F)) (hE : E i = .sat (fewCP (Tm.takeF F 40))) : Step Tryd.prog ops Q E D base N i :=
  step_call hop (fun _ _ => by kernel_rfl) fun a w h => by
    obtain ⟨A, c, ex, ha⟩ := hx a w h
    rw [show (#[x] : Array Operand).map a.eval = #[.slice A (Tm.len F) c] by rw [← ex]; simp, hE]
    refine (few_any F A (Tm.len F) c w.heap.size w ha (Nat.le_refl _)).mono ?_
    rintro e w' ⟨A', c', rfl, ho, hb⟩
    have hl := ho.len
    have hcap := ho.cap
    refine ⟨_, rfl, ⟨A', c', by rw [hl], by rw [hl]; exact ho.args (by omega), by rw [hl]; exact hcap.1, hcap.2.1, fun e => ?_, fun ad e => ?_⟩, hb⟩
    · rcases hcap.2.2 with ⟨_, _, h⟩ | ⟨g, h⟩
      · exact h
      · rw [e] at h; cases h
    · rcases hcap.2.2 with ⟨h, _⟩ | ⟨g, h⟩
      · rw [e] at h; cases h
      · rw [e] at h; cases h; rfl
theorem la1_step {Q : Exit → Act → World → Prop} (p : Pay) (l : Fo) (q : Pay) (m : Fo) (s : ByteArray) (z : Nat) (R : Fo) (wz : World) {a : Act} (h : Hold 83 [(5, Kd.ptrT p l), (6, .ptrT q m), (7, .sat (varP (.string s))), (3, .row R), (4, .val (.int .u8 (z : Int))), (999, .tabs)] wz a wz)
    (hQ : ∀ A c pl a' w', Hold 83 (oldEnv (laBase p l q m s z) wz) wz a' w' → LC wz pl A (Tm.len (Tm.takeF R 40)) c (Tm.takeF R 40) a' w' → Q .normal a' w') : (Code.region 1 la1Ops false).wp Tryd.prog Q a wz := by
  refine region_seq (w0 := wz) 4 (by kernel_rfl) ?_
  rw [show List.range 4 = [0, 1, 2, 3] from rfl]
  have hz : Hold 83 (laBase p l q m s z) wz a wz := h.keep [5, 6, 7, 4, 999]
  have hz := hz.olds
  refine env_one' (i := 0) (d := 18) (k := .row R) (step_move (by kernel_rfl) (Opd.of_base 3 rfl) rfl) (by kernel_rfl) (by decide) h ?_
  intro a1 w1 q1 g1
  refine env_one' (i := 1) (d := 19) (k := .sat (fewCP (Tm.takeF R 40))) (step_fewC (by kernel_rfl) (Opd.of_base 18 rfl) rfl) (by kernel_rfl) (by decide) q1 ?_
  intro a2 w2 q2 g2
  obtain ⟨A, c, e19, ha, h1, h2, h3, h4⟩ := q2.get 19 rfl
  have hs := q2.size
  refine ops_at (X := .alloc 22) (d := some 11) (by kernel_rfl) fun ty pos after => wp_run (run_alloc_row w2) ?_
  have hc := CellIs.new w2 (.slice none 0 0) 22
  refine ops_at (X := .store 22 (.tmp 11) (.tmp 19)) (d := none) (by kernel_rfl) fun ty pos after => wp_skips (run_store_row _ w2.heap.size _ A (Tm.len (Tm.takeF R 40)) c (put_self (by omega)) ((put_other (by decide)).trans e19) hc) ?_
  show Q .normal _ _
  have hb1 : Below w2.heap.size w2 (w2.alloc (.cells #[.slice none 0 0] 22)) := (Below.refl _ _).alloc (Nat.le_refl _) _
  have hb2 : Below w2.heap.size w2 ((w2.alloc (.cells #[.slice none 0 0] 22)).setCell ⟨w2.heap.size, 0, none⟩ (.slice A (Tm.len (Tm.takeF R 40)) c)) := hb1.setCell (Nat.le_refl _) _
  have hh := hz.later (a' := a2.put (some 11) (.pointer (some ⟨w2.heap.size, 0, none⟩))) (w' := (w2.alloc (.cells #[.slice none 0 0] 22)).setCell ⟨w2.heap.size, 0, none⟩ (.slice A (Tm.len (Tm.takeF R 40)) c)) (put_size.trans hs) q2.defers (q2.world.trans (hb2.mono q2.world.size)) fun t k hk => (put_other (laBase_ne (d := 11) (by decide) (by decide) t k hk)).trans ((g2 t (laBase_ne (d := 19) (by decide) (by decide) t k hk)).trans (g1 t (laBase_ne (d := 18) (by decide) (by decide) t k hk)))
  exact hQ A c w2.heap.size _ _ hh ⟨put_self (by omega), q2.world.size, hc.set _, ha.below hb2 (Nat.le_refl _), h1, h2, h3, h4⟩
theorem LC.put {wz : World} {pl : Nat} {A : Option Addr} {n c : Nat} {L : Fo} {a : Act} {w : World} (h : LC wz pl A n c L a w) {d : Nat} (hd : d ≠ 11) (v : Value) : LC wz pl A n c L (a.put (some d) v) w :=
  ⟨(put_other (Ne.symm hd)).trans h.s11, h.lo, h.cell, h.row, h.nc, h.c63, h.hA, h.hA2⟩
theorem LC.below {wz : World} {pl : Nat} {A : Option Addr} {n c : Nat} {L : Fo} {a : Act} {w w' : World} (h : LC wz pl A n c L a w) (hb : Below w.heap.size w w') : LC wz pl A n c L a w' :=
  ⟨h.s11, h.lo, h.cell.below hb h.cell.lt, h.row.below hb (Nat.le_of_lt h.cell.lt), h.nc, h.c63, h.hA, h.hA2⟩
theorem laPut (p : Pay) (l : Fo) (q : Pay) (m : Fo) (s : ByteArray) (z : Nat) {wz w : World} {a : Act} (h : Hold 83 (oldEnv (laBase p l q m s z) wz) wz a w) {d : Nat} (hd : 7 < d) (hd2 : d < 990) (v : Value) : Hold 83 (oldEnv (laBase p l q m s z) wz) wz (a.put (some d) v) w :=
  h.later (put_size.trans h.size) h.defers h.world fun t k hk => put_other (laBase_ne hd hd2 t k hk)
theorem la23_step {Q : Exit → Act → World → Prop} (p : Pay) (l : Fo) (q : Pay) (m : Fo) (s : ByteArray) (z : Nat) (wz : World) (L0 : Fo) (pl : Nat) (A : Option Addr) (c : Nat) {a : Act} {w : World} (h : Hold 83 (oldEnv (laBase p l q m s z) wz) wz a w) (lc : LC wz pl A (Tm.len L0) c L0 a w)
    (hQ : ∀ n c a' w', n ≤ 7 → n = Tm.len (Tm.takeF L0 7) → Hold 83 (oldEnv (laBase p l q m s z) wz) wz a' w' → LC wz pl A n c (Tm.takeF L0 7) a' w' → Q .normal a' w') : (Code.seq (.region 2 la2Ops false) (.cond (.tmp 22) (.region 3 la3Ops false) .skip)).wp Tryd.prog Q a w := by
  have hs := h.size
  refine wp_seq ?_
  refine region_seq (w0 := w) 3 (by kernel_rfl) ?_
  rw [show List.range 3 = [0, 1, 2] from rfl]
  refine ops_at (X := .load 22 (.tmp 11)) (d := some 20) (by kernel_rfl) fun ty pos after => wp_run (run_load_rowv w pl A (Tm.len L0) c lc.s11 lc.cell.cell) ?_
  refine ops_at (X := .call { callee := .builtin .len, args := #[.tmp 20], argTypes := #[22] }) (d := some 21) (by kernel_rfl) fun ty pos after => wp_run (run_len_row w A (Tm.len L0) c (put_self (by omega))) ?_
  refine ops_at (X := .binOp .gtr 3 (.tmp 21) (.const (.int .i64 7)) 3) (d := some 22) (by kernel_rfl) fun ty pos after => wp_run (run_gtr_int w _ 7 (put_self (by rw [put_size]; omega))) ?_
  have h2 := laPut p l q m s z (laPut p l q m s z (laPut p l q m s z h (d := 20) (by decide) (by decide) (.slice A (Tm.len L0) c)) (d := 21) (by decide) (by decide) (.int .i64 (Tm.len L0 : Int))) (d := 22) (by decide) (by decide) (.bool (decide ((7 : Int) < (Tm.len L0 : Int))))
  have lc2 := ((lc.put (d := 20) (by decide) (.slice A (Tm.len L0) c)).put (d := 21) (by decide) (.int .i64 (Tm.len L0 : Int))).put (d := 22) (by decide) (.bool (decide ((7 : Int) < (Tm.len L0 : Int))))
  have e22 : (((a.put (some 20) (.slice A (Tm.len L0) c)).put (some 21) (.int .i64 (Tm.len L0 : Int))).put (some 22) (.bool (decide ((7 : Int) < (Tm.len L0 : Int))))).tmps.getD 22 undef = .bool (decide ((7 : Int) < (Tm.len L0 : Int))) := put_self (by rw [put_size, put_size]; omega)
  generalize ((a.put (some 20) (.slice A (Tm.len L0) c)).put (some 21) (.int .i64 (Tm.len L0 : Int))).put (some 22) (.bool (decide ((7 : Int) < (Tm.len L0 : Int)))) = a2 at h2 lc2 e22 ⊢
  show Code.wp _ _ _ a2 w
  by_cases h7 : 7 < Tm.len L0
  · rw [decide_eq_true (by omega)] at e22
    refine wp_cond (t := true) e22 ?_
    show Code.wp _ _ _ a2 w
    have hs2 := h2.size
    refine region_seq (w0 := w) 3 (by kernel_rfl) ?_
    rw [show List.range 3 = [0, 1, 2] from rfl]
    refine ops_at (X := .load 22 (.tmp 11)) (d := some 23) (by kernel_rfl) fun ty pos after => wp_run (run_load_rowv w pl A (Tm.len L0) c lc2.s11 lc2.cell.cell) ?_
    refine ops_at (X := .slice 22 (.tmp 23) none (some (.const (.int .i64 7))) none) (d := some 24) (by kernel_rfl) fun ty pos after => wp_run (run_slice_to w A (Tm.len L0) c 7 (put_self (by omega)) rfl (by omega) lc2.nc lc2.hA lc2.c63) ?_
    refine ops_at (X := .store 22 (.tmp 11) (.tmp 24)) (d := none) (by kernel_rfl) fun ty pos after => wp_skips (run_store_row w pl _ A 7 c ((put_other (by decide)).trans ((put_other (by decide)).trans lc2.s11)) (put_self (by rw [put_size]; omega)) lc2.cell) ?_
    show Q .normal _ _
    have hlen : Tm.len (Tm.takeF L0 7) = 7 := Tm.takeF_len L0 7 (by omega)
    have hb : Below wz.heap.size w (w.setCell ⟨pl, 0, none⟩ (.slice A 7 c)) := (Below.refl _ _).setCell lc2.lo _
    refine hQ 7 c _ _ (Nat.le_refl _) hlen.symm ((laPut p l q m s z (laPut p l q m s z h2 (d := 23) (by decide) (by decide) (.slice A (Tm.len L0) c)) (d := 24) (by decide) (by decide) (.slice A 7 c)).later (put_size.trans (put_size.trans hs2)) h2.defers (h2.world.trans hb) (fun _ _ _ => rfl)) ?_
    refine ⟨(put_other (by decide)).trans ((put_other (by decide)).trans lc2.s11), lc2.lo, lc2.cell.set _, ?_, by have := lc2.nc; omega, lc2.c63, lc2.hA, lc2.hA2⟩
    have hrow : ArgsB w pl A 7 (Tm.takeF L0 7) := by
      cases A with
      | none =>
        exfalso
        have := lc2.hA rfl
        have := lc2.nc
        omega
      | some ad =>
        obtain ⟨b, o, sp⟩ := ad
        have hsp : sp = none := lc2.hA2 _ rfl
        subst hsp
        exact lc2.row.take (by omega)
    exact hrow.keep fun b (hb' : b < pl) => setCell_block w pl 0 _ b (by omega)
  · rw [decide_eq_false (by omega)] at e22
    refine wp_cond (t := false) e22 ?_
    refine wp_skip ?_
    show Q .normal _ _
    have ht : Tm.takeF L0 7 = L0 := by
      refine Tm.toL_inj ?_
      rw [takeF_toL, List.take_of_length_le (by rw [Tm.len_toL]; omega)]
    exact hQ (Tm.len L0) c a2 w (by omega) (by rw [ht]) h2 (by rw [ht]; exact lc2)
theorem la4_step {Q : Exit → Act → World → Prop} (p : Pay) (l : Fo) (q : Pay) (m : Fo) (s : ByteArray) (z : Nat) (wz : World) (L : Fo) (pl n c : Nat) (A : Option Addr) (hz : z < 256) (hn7 : n ≤ 7) {a : Act} {w : World} (h : Hold 83 (oldEnv (laBase p l q m s z) wz) wz a w) (lc : LC wz pl A n c L a w)
    (hQ : ∀ pi a' w', Hold 83 (oldEnv (laBase p l q m s z) wz) wz a' w' → LC wz pl A n c L a' w' → a'.tmps.getD 12 undef = .pointer (some ⟨pi, 0, none⟩) → CellIs w' pi (.int .i64 ((z % (n + 1) : Nat) : Int)) → Q .normal a' w') : (Code.region 4 la4Ops false).wp Tryd.prog Q a w := by
  have hs := h.size
  have e4 : a.tmps.getD 4 undef = .int .u8 (z : Int) := (h.get 4 rfl).1
  refine region_seq (w0 := w) 8 (by kernel_rfl) ?_
  rw [show List.range 8 = [0, 1, 2, 3, 4, 5, 6, 7] from rfl]
  refine ops_at (X := .move (.tmp 4)) (d := some 25) (by kernel_rfl) fun ty pos after => wp_run (v := .int .u8 (z : Int)) (by rw [← e4]; rfl) ?_
  have h := laPut p l q m s z h (d := 25) (by decide) (by decide) (.int .u8 (z : Int))
  have lc := lc.put (d := 25) (by decide) (.int .u8 (z : Int))
  have e25 : (a.put (some 25) (.int .u8 (z : Int))).tmps.getD 25 undef = .int .u8 (z : Int) := put_self (by omega)
  have hs : (a.put (some 25) (.int .u8 (z : Int))).tmps.size = 83 := put_size.trans hs
  generalize a.put (some 25) (.int .u8 (z : Int)) = a at h lc hs e25 ⊢
  refine ops_at (X := .convert 5 3 (.tmp 25)) (d := some 26) (by kernel_rfl) fun ty pos after => wp_run (run_conv8 w z hz e25) ?_
  have h := laPut p l q m s z h (d := 26) (by decide) (by decide) (.int .i64 (z : Int))
  have lc := lc.put (d := 26) (by decide) (.int .i64 (z : Int))
  have e26 : (a.put (some 26) (.int .i64 (z : Int))).tmps.getD 26 undef = .int .i64 (z : Int) := put_self (by omega)
  have hs : (a.put (some 26) (.int .i64 (z : Int))).tmps.size = 83 := put_size.trans hs
  generalize a.put (some 26) (.int .i64 (z : Int)) = a at h lc hs e26 ⊢
  refine ops_at (X := .load 22 (.tmp 11)) (d := some 27) (by kernel_rfl) fun ty pos after => wp_run (run_load_rowv w pl A n c lc.s11 lc.cell.cell) ?_
  have h := laPut p l q m s z h (d := 27) (by decide) (by decide) (.slice A n c)
  have lc := lc.put (d := 27) (by decide) (.slice A n c)
  have e27 : (a.put (some 27) (.slice A n c)).tmps.getD 27 undef = .slice A n c := put_self (by omega)
  have e26 : (a.put (some 27) (.slice A n c)).tmps.getD 26 undef = _ := (put_other (by decide)).trans e26
  have hs : (a.put (some 27) (.slice A n c)).tmps.size = 83 := put_size.trans hs
  generalize a.put (some 27) (.slice A n c) = a at h lc hs e27 e26 ⊢
  refine ops_at (X := .call { callee := .builtin .len, args := #[.tmp 27], argTypes := #[22] }) (d := some 28) (by kernel_rfl) fun ty pos after => wp_run (run_len_row w A n c e27) ?_
  have h := laPut p l q m s z h (d := 28) (by decide) (by decide) (.int .i64 (n : Int))
  have lc := lc.put (d := 28) (by decide) (.int .i64 (n : Int))
  have e28 : (a.put (some 28) (.int .i64 (n : Int))).tmps.getD 28 undef = .int .i64 (n : Int) := put_self (by omega)
  have e26 : (a.put (some 28) (.int .i64 (n : Int))).tmps.getD 26 undef = _ := (put_other (by decide)).trans e26
  have hs : (a.put (some 28) (.int .i64 (n : Int))).tmps.size = 83 := put_size.trans hs
  generalize a.put (some 28) (.int .i64 (n : Int)) = a at h lc hs e28 e26 ⊢
  refine ops_at (X := .binOp .add 3 (.tmp 28) (.const (.int .i64 1)) 3) (d := some 29) (by kernel_rfl) fun ty pos after => wp_run (run_add1 w n (by omega) e28) ?_
  have h := laPut p l q m s z h (d := 29) (by decide) (by decide) (.int .i64 ((n + 1 : Nat) : Int))
  have lc := lc.put (d := 29) (by decide) (.int .i64 ((n + 1 : Nat) : Int))
  have e29 : (a.put (some 29) (.int .i64 ((n + 1 : Nat) : Int))).tmps.getD 29 undef = .int .i64 ((n + 1 : Nat) : Int) := put_self (by omega)
  have e26 : (a.put (some 29) (.int .i64 ((n + 1 : Nat) : Int))).tmps.getD 26 undef = _ := (put_other (by decide)).trans e26
  have hs : (a.put (some 29) (.int .i64 ((n + 1 : Nat) : Int))).tmps.size = 83 := put_size.trans hs
  generalize a.put (some 29) (.int .i64 ((n + 1 : Nat) : Int)) = a at h lc hs e29 e26 ⊢
  refine ops_at (X := .binOp .rem 3 (.tmp 26) (.tmp 29) 3) (d := some 30) (by kernel_rfl) fun ty pos after => wp_run (run_rem w z (n + 1) (by omega) (by omega) (by omega) e26 e29) ?_
  have h := laPut p l q m s z h (d := 30) (by decide) (by decide) (.int .i64 ((z % (n + 1) : Nat) : Int))
  have lc := lc.put (d := 30) (by decide) (.int .i64 ((z % (n + 1) : Nat) : Int))
  have e30 : (a.put (some 30) (.int .i64 ((z % (n + 1) : Nat) : Int))).tmps.getD 30 undef = .int .i64 ((z % (n + 1) : Nat) : Int) := put_self (by omega)
  have hs : (a.put (some 30) (.int .i64 ((z % (n + 1) : Nat) : Int))).tmps.size = 83 := put_size.trans hs
  generalize a.put (some 30) (.int .i64 ((z % (n + 1) : Nat) : Int)) = a at h lc hs e30 ⊢
  have hq9 := h
  have lq := lc
  have hs2 := hq9.size
  have hc := CellIs.new w (.int .i64 0) 3
  refine ops_at (X := .alloc 3) (d := some 12) (by kernel_rfl) fun ty pos after => wp_run (run_alloc_int w) ?_
  refine ops_at (X := .store 3 (.tmp 12) (.tmp 30)) (d := none) (by kernel_rfl) fun ty pos after => wp_skips (run_store_int _ w.heap.size _ ((z % (n + 1) : Nat) : Int) (put_self (by omega)) ((put_other (by decide)).trans e30) hc) ?_
  show Q .normal _ _
  have hb : Below w.heap.size w ((w.alloc (.cells #[.int .i64 0] 3)).setCell ⟨w.heap.size, 0, none⟩ (.int .i64 ((z % (n + 1) : Nat) : Int))) := ((Below.refl _ _).alloc (Nat.le_refl _) _).setCell (Nat.le_refl _) _
  exact hQ w.heap.size _ _ ((laPut p l q m s z hq9 (d := 12) (by decide) (by decide) (.pointer (some ⟨w.heap.size, 0, none⟩))).later (put_size.trans hs2) hq9.defers (hq9.world.trans (hb.mono hq9.world.size)) (fun _ _ _ => rfl)) ((lq.put (d := 12) (by decide) _).below hb) (put_self (by omega)) (hc.set _)
theorem la5_step {Q : Exit → Act → World → Prop} (p : Pay) (l : Fo) (q : Pay) (m : Fo) (s : ByteArray) (z : Nat) (wz : World) (L : Fo) (pl pi n c : Nat) (A : Option Addr) (v : Value) {a : Act} {w : World} (h : Hold 83 (oldEnv (laBase p l q m s z) wz) wz a w) (lc : LC wz pl A n c L a w) (h12 : a.tmps.getD 12 undef = .pointer (some ⟨pi, 0, none⟩)) (hpi : CellIs w pi v)
    (hQ : ∀ pn a' w', Hold 83 (oldEnv (laBase p l q m s z) wz) wz a' w' → LC wz pl A n c L a' w' → CellIs w' pi v → pn < wz.heap.size → w'.cell? ⟨pn, 0, none⟩ = some (.string s) → a'.tmps.getD 13 undef = (.func (.func 29) #[] #[.pointer (some ⟨pl, 0, none⟩), .pointer (some ⟨pi, 0, none⟩), .pointer (some ⟨pn, 0, none⟩)]) → Q .normal a' w') : (Code.region 5 la5Ops false).wp Tryd.prog Q a w := by
  have hs := h.size
  obtain ⟨pn, e7, hpn, hcn⟩ : (varP (.string s)).R (a.tmps.getD 7 undef) wz := (h.get 7 rfl).1
  have hcn' : w.cell? ⟨pn, 0, none⟩ = some (.string s) := (h.world.cell (p := ⟨pn, 0, none⟩) hpn).trans hcn
  refine region_seq (w0 := w) 2 (by kernel_rfl) ?_
  rw [show List.range 2 = [0, 1] from rfl]
  refine ops_at (X := .makeFunc (.func 29) #[] #[.tmp 11, .tmp 12, .tmp 7]) (d := some 31) (by kernel_rfl) fun ty pos after => wp_run (run_makeFunc w _ _ _ lc.s11 h12 e7) ?_
  refine ops_at (X := .assign (.tmp 31)) (d := some 13) (by kernel_rfl) fun ty pos after => wp_assign_op ?_
  show Q .normal _ _
  exact hQ pn _ _ (laPut p l q m s z (laPut p l q m s z h (d := 31) (by decide) (by decide) _) (d := 13) (by decide) (by decide) _) ((lc.put (d := 31) (by decide) _).put (d := 13) (by decide) _) hpi hpn hcn' ((put_self (by rw [put_size]; omega)).trans (put_self (by omega)))
theorem run_load_term {a : Act} {x : Operand} {dst : Option Tmp} {ty : TypeId} {pos : String} {after : Array Edge} {guard : Option (Nat × Bool)} (w : World) (b o : Nat) (p : Pay) (A : Option Addr) (n c : Nat) (hx : a.eval x = .pointer (some ⟨b, o, none⟩)) (y0 : w.cell? ⟨b, o, none⟩ = some (.int .i64 p.1)) (y1 : w.cell? ⟨b, o + 1, none⟩ = some (.int .i64 p.2.1)) (y2 : w.cell? ⟨b, o + 2, none⟩ = some (.string p.2.2)) (y3 : w.cell? ⟨b, o + 3, none⟩ = some (.slice A n c)) :
    (execOp a.eval ⟨dst, .load 24 x, ty, pos, after, guard⟩).run Tryd.prog w = .ok (.value (tv p A n c)) w := by
  unfold execOp
  simp only [hx]
  go_simp
theorem wp_enter {Q : Exit → Act → World → Prop} {o : Oper} {a : Act} {w : World} {K : Act → World → Prop} {f : FuncId} {args : Array Value} (hr : (execOp a.eval o).run Tryd.prog w = .ok (.enter f args) w) (hc : Calls Tryd.prog f args w fun e w' => ∃ v, e = .returned v ∧ K (a.put o.dst v) w') : o.wp Tryd.prog a w K Q := by
  unfold Oper.wp
  rw [hr]
  show Calls _ _ _ _ _
  refine hc.mono ?_
  rintro e w' ⟨v, rfl, h⟩
  exact h
theorem run_call_closure {a : Act} {f x : Tmp} {dst : Option Tmp} {ty : TypeId} {pos : String} {after : Array Edge} {guard : Option (Nat × Bool)} (w : World) (u1 u2 u3 v : Value) (hf : a.tmps.getD f undef = .func (.func 29) #[] #[u1, u2, u3]) (hx : a.tmps.getD x undef = v) :
    (execOp a.eval ⟨dst, .call { callee := .value (.tmp f), args := #[.tmp x], argTypes := #[24] }, ty, pos, after, guard⟩).run Tryd.prog w = .ok (.enter 29 #[v, u1, u2, u3]) w := by
  have hf' : a.eval (.tmp f) = .func (.func 29) #[] #[u1, u2, u3] := hf
  have hx' : a.eval (.tmp x) = v := hx
  unfold execOp
  simp only [resolve, List.map_toArray, List.map_cons, List.map_nil, hf', hx']
  go_simp
/-- A call's result, that does not lie in the new variables. -/
def CRes (w : World) (v : Value) (s : ByteArray) (nn : Nat) (U : Fo) (X : Nat → Prop) : Prop := ∃ A' c', v = tv (3, 0, s) A' nn c' ∧ ArgsIn (fun b => b < w.heap.size ∧ X b) w A' nn U
structure CI (p : Pay) (l : Fo) (q : Pay) (m : Fo) (s : ByteArray) (z : Nat) (wz w6 : World) (L : Fo) (i n pl pi pn : Nat) (M : Nat → Bool) (a : Act) (w : World) : Prop where
  old : Hold 83 (oldEnv (laBase p l q m s z) wz) wz a w
  b6 : Below w6.heap.size w6 w
  s13 : a.tmps.getD 13 undef = (.func (.func 29) #[] #[.pointer (some ⟨pl, 0, none⟩), .pointer (some ⟨pi, 0, none⟩), .pointer (some ⟨pn, 0, none⟩)])
  d0 : M 0 = true → a.tmps.getD 32 undef = (.func (.func 29) #[] #[.pointer (some ⟨pl, 0, none⟩), .pointer (some ⟨pi, 0, none⟩), .pointer (some ⟨pn, 0, none⟩)])
  d1 : M 1 = true → ∃ A' c', a.tmps.getD 33 undef = tv p A' (Tm.len l) c' ∧ ArgsB w wz.heap.size A' (Tm.len l) l
  d2 : M 2 = true → CRes w (a.tmps.getD 34 undef) s (i + 1 + (n - i)) (Tm.app (Tm.app (Tm.takeF L i) (.node p l .nil)) (Tm.dropF L i)) (fun b => ((M 6 = true → a.tmps.getD 14 undef ≠ .pointer (some ⟨b, 0, none⟩)) ∧ (M 7 = true → a.tmps.getD 15 undef ≠ .pointer (some ⟨b, 0, none⟩))))
  d3 : M 3 = true → a.tmps.getD 35 undef = (.func (.func 29) #[] #[.pointer (some ⟨pl, 0, none⟩), .pointer (some ⟨pi, 0, none⟩), .pointer (some ⟨pn, 0, none⟩)])
  d4 : M 4 = true → ∃ A' c', a.tmps.getD 36 undef = tv q A' (Tm.len m) c' ∧ ArgsB w wz.heap.size A' (Tm.len m) m
  d5 : M 5 = true → CRes w (a.tmps.getD 37 undef) s (i + 1 + (n - i)) (Tm.app (Tm.app (Tm.takeF L i) (.node q m .nil)) (Tm.dropF L i)) (fun b => ((M 6 = true → a.tmps.getD 14 undef ≠ .pointer (some ⟨b, 0, none⟩)) ∧ (M 7 = true → a.tmps.getD 15 undef ≠ .pointer (some ⟨b, 0, none⟩))))
  d6 : M 6 = true → ∃ b, a.tmps.getD 14 undef = .pointer (some ⟨b, 0, none⟩) ∧ w6.heap.size ≤ b ∧ b < w.heap.size ∧ ResAt w b
  d7 : M 7 = true → ∃ b, a.tmps.getD 15 undef = .pointer (some ⟨b, 0, none⟩) ∧ w6.heap.size ≤ b ∧ b < w.heap.size ∧ ResAt w b
  d67 : M 6 = true → M 7 = true → a.tmps.getD 14 undef ≠ a.tmps.getD 15 undef
theorem CRes.mono {w w' : World} {v : Value} {s : ByteArray} {nn : Nat} {U : Fo} {X X' : Nat → Prop} (h : CRes w v s nn U X) (hb : Below w.heap.size w w') (hX : ∀ b, b < w.heap.size → X b → X' b) : CRes w' v s nn U X' := by
  obtain ⟨A', c', e, ha⟩ := h
  exact ⟨A', c', e, (ha.keep fun b hb' => hb.block b hb'.1).mono fun b hb' => ⟨Nat.lt_of_lt_of_le hb'.1 hb.size, hX b hb'.1 hb'.2⟩⟩
theorem ci_0 {Q : Exit → Act → World → Prop} (p : Pay) (l : Fo) (q : Pay) (m : Fo) (s : ByteArray) (z : Nat) (wz w6 : World) (L : Fo) (i n pl pi pn : Nat) (a6 : Act) (c : Nat) (A : Option Addr) (lc : LC wz pl A n c L a6 w6) (hpi : CellIs w6 pi (.int .i64 (i : Int))) (hpn : pn < wz.heap.size) (hcn : w6.cell? ⟨pn, 0, none⟩ = some (.string s)) (hz6 : wz.heap.size ≤ w6.heap.size) (hi : i ≤ n) (hn7 : n ≤ 7) (M : Nat → Bool) (a : Act) (w : World) (I : CI p l q m s z wz w6 L i n pl pi pn M a w) : wpOp Tryd.prog la6Ops Q 0 (CI p l q m s z wz w6 L i n pl pi pn (fun j => if j = 0 then true else M j)) a w := by
  have hs := I.old.size
  refine op_at (X := .move (.tmp 13)) (d := some 32) (by kernel_rfl) fun ty pos after => wp_run (v := (.func (.func 29) #[] #[.pointer (some ⟨pl, 0, none⟩), .pointer (some ⟨pi, 0, none⟩), .pointer (some ⟨pn, 0, none⟩)])) (by rw [← I.s13]; rfl) ?_
  have hb := Below.refl w.heap.size w
  exact ⟨I.old.later (put_size.trans I.old.size) I.old.defers (I.old.world.trans (hb.mono I.old.world.size)) (fun t k hk => put_other (laBase_ne (by decide) (by decide) t k hk)), I.b6.trans (hb.mono I.b6.size), (put_other (by decide)).trans I.s13, fun _ => put_self (by omega), fun h => by
      obtain ⟨A', c', e, hx⟩ := I.d1 h
      exact ⟨A', c', (put_other (by decide)).trans e, hx.below hb (Nat.le_trans I.old.world.size (Nat.le_refl _))⟩, fun h => by
      rw [put_other (by decide)]
      exact (I.d2 h).mono hb fun b _ hb' => ⟨fun h6 => by rw [put_other (by decide)]; exact hb'.1 h6, fun h7 => by rw [put_other (by decide)]; exact hb'.2 h7⟩, fun h => (put_other (by decide)).trans (I.d3 h), fun h => by
      obtain ⟨A', c', e, hx⟩ := I.d4 h
      exact ⟨A', c', (put_other (by decide)).trans e, hx.below hb (Nat.le_trans I.old.world.size (Nat.le_refl _))⟩, fun h => by
      rw [put_other (by decide)]
      exact (I.d5 h).mono hb fun b _ hb' => ⟨fun h6 => by rw [put_other (by decide)]; exact hb'.1 h6, fun h7 => by rw [put_other (by decide)]; exact hb'.2 h7⟩, fun h => by
      obtain ⟨b, e, h1, h2, h3⟩ := I.d6 h
      exact ⟨b, (put_other (by decide)).trans e, h1, Nat.lt_of_lt_of_le h2 hb.size, h3.below hb h2⟩, fun h => by
      obtain ⟨b, e, h1, h2, h3⟩ := I.d7 h
      exact ⟨b, (put_other (by decide)).trans e, h1, Nat.lt_of_lt_of_le h2 hb.size, h3.below hb h2⟩, fun h h' => by
      rw [put_other (by decide), put_other (by decide)]
      exact I.d67 h h'⟩
theorem ci_3 {Q : Exit → Act → World → Prop} (p : Pay) (l : Fo) (q : Pay) (m : Fo) (s : ByteArray) (z : Nat) (wz w6 : World) (L : Fo) (i n pl pi pn : Nat) (a6 : Act) (c : Nat) (A : Option Addr) (lc : LC wz pl A n c L a6 w6) (hpi : CellIs w6 pi (.int .i64 (i : Int))) (hpn : pn < wz.heap.size) (hcn : w6.cell? ⟨pn, 0, none⟩ = some (.string s)) (hz6 : wz.heap.size ≤ w6.heap.size) (hi : i ≤ n) (hn7 : n ≤ 7) (M : Nat → Bool) (a : Act) (w : World) (I : CI p l q m s z wz w6 L i n pl pi pn M a w) : wpOp Tryd.prog la6Ops Q 3 (CI p l q m s z wz w6 L i n pl pi pn (fun j => if j = 3 then true else M j)) a w := by
  have hs := I.old.size
  refine op_at (X := .move (.tmp 13)) (d := some 35) (by kernel_rfl) fun ty pos after => wp_run (v := (.func (.func 29) #[] #[.pointer (some ⟨pl, 0, none⟩), .pointer (some ⟨pi, 0, none⟩), .pointer (some ⟨pn, 0, none⟩)])) (by rw [← I.s13]; rfl) ?_
  have hb := Below.refl w.heap.size w
  exact ⟨I.old.later (put_size.trans I.old.size) I.old.defers (I.old.world.trans (hb.mono I.old.world.size)) (fun t k hk => put_other (laBase_ne (by decide) (by decide) t k hk)), I.b6.trans (hb.mono I.b6.size), (put_other (by decide)).trans I.s13, fun h => (put_other (by decide)).trans (I.d0 h), fun h => by
      obtain ⟨A', c', e, hx⟩ := I.d1 h
      exact ⟨A', c', (put_other (by decide)).trans e, hx.below hb (Nat.le_trans I.old.world.size (Nat.le_refl _))⟩, fun h => by
      rw [put_other (by decide)]
      exact (I.d2 h).mono hb fun b _ hb' => ⟨fun h6 => by rw [put_other (by decide)]; exact hb'.1 h6, fun h7 => by rw [put_other (by decide)]; exact hb'.2 h7⟩, fun _ => put_self (by omega), fun h => by
      obtain ⟨A', c', e, hx⟩ := I.d4 h
      exact ⟨A', c', (put_other (by decide)).trans e, hx.below hb (Nat.le_trans I.old.world.size (Nat.le_refl _))⟩, fun h => by
      rw [put_other (by decide)]
      exact (I.d5 h).mono hb fun b _ hb' => ⟨fun h6 => by rw [put_other (by decide)]; exact hb'.1 h6, fun h7 => by rw [put_other (by decide)]; exact hb'.2 h7⟩, fun h => by
      obtain ⟨b, e, h1, h2, h3⟩ := I.d6 h
      exact ⟨b, (put_other (by decide)).trans e, h1, Nat.lt_of_lt_of_le h2 hb.size, h3.below hb h2⟩, fun h => by
      obtain ⟨b, e, h1, h2, h3⟩ := I.d7 h
      exact ⟨b, (put_other (by decide)).trans e, h1, Nat.lt_of_lt_of_le h2 hb.size, h3.below hb h2⟩, fun h h' => by
      rw [put_other (by decide), put_other (by decide)]
      exact I.d67 h h'⟩
theorem ci_1 {Q : Exit → Act → World → Prop} (p : Pay) (l : Fo) (q : Pay) (m : Fo) (s : ByteArray) (z : Nat) (wz w6 : World) (L : Fo) (i n pl pi pn : Nat) (a6 : Act) (c : Nat) (A : Option Addr) (lc : LC wz pl A n c L a6 w6) (hpi : CellIs w6 pi (.int .i64 (i : Int))) (hpn : pn < wz.heap.size) (hcn : w6.cell? ⟨pn, 0, none⟩ = some (.string s)) (hz6 : wz.heap.size ≤ w6.heap.size) (hi : i ≤ n) (hn7 : n ≤ 7) (M : Nat → Bool) (a : Act) (w : World) (I : CI p l q m s z wz w6 L i n pl pi pn M a w) : wpOp Tryd.prog la6Ops Q 1 (CI p l q m s z wz w6 L i n pl pi pn (fun j => if j = 1 then true else M j)) a w := by
  have hs := I.old.size
  obtain ⟨b, o, A', c', e, hlt, hnode⟩ : (Kd.ptrT p l).R (a.tmps.getD 5 undef) wz := (I.old.get 5 rfl).1
  have hk : ∀ j, w.cell? ⟨b, j, none⟩ = wz.cell? ⟨b, j, none⟩ := fun j => I.old.world.cell (p := ⟨b, j, none⟩) hlt
  have y0 := (hk o).trans hnode.kind
  have y1 := (hk (o + 1)).trans hnode.num
  have y2 := (hk (o + 2)).trans hnode.name
  have y3 := (hk (o + 3)).trans hnode.args
  have hx : ArgsB w wz.heap.size A' (Tm.len l) l := hnode.inn.below I.old.world (Nat.le_refl _)
  refine op_at (X := .load 24 (.tmp 5)) (d := some 33) (by kernel_rfl) fun ty pos after => wp_run (run_load_term w b o p A' (Tm.len l) c' e y0 y1 y2 y3) ?_
  have hb := Below.refl w.heap.size w
  exact ⟨I.old.later (put_size.trans I.old.size) I.old.defers (I.old.world.trans (hb.mono I.old.world.size)) (fun t k hk => put_other (laBase_ne (by decide) (by decide) t k hk)), I.b6.trans (hb.mono I.b6.size), (put_other (by decide)).trans I.s13, fun h => (put_other (by decide)).trans (I.d0 h), fun _ => ⟨A', c', put_self (by omega), hx⟩, fun h => by
      rw [put_other (by decide)]
      exact (I.d2 h).mono hb fun b _ hb' => ⟨fun h6 => by rw [put_other (by decide)]; exact hb'.1 h6, fun h7 => by rw [put_other (by decide)]; exact hb'.2 h7⟩, fun h => (put_other (by decide)).trans (I.d3 h), fun h => by
      obtain ⟨A', c', e, hx⟩ := I.d4 h
      exact ⟨A', c', (put_other (by decide)).trans e, hx.below hb (Nat.le_trans I.old.world.size (Nat.le_refl _))⟩, fun h => by
      rw [put_other (by decide)]
      exact (I.d5 h).mono hb fun b _ hb' => ⟨fun h6 => by rw [put_other (by decide)]; exact hb'.1 h6, fun h7 => by rw [put_other (by decide)]; exact hb'.2 h7⟩, fun h => by
      obtain ⟨b, e, h1, h2, h3⟩ := I.d6 h
      exact ⟨b, (put_other (by decide)).trans e, h1, Nat.lt_of_lt_of_le h2 hb.size, h3.below hb h2⟩, fun h => by
      obtain ⟨b, e, h1, h2, h3⟩ := I.d7 h
      exact ⟨b, (put_other (by decide)).trans e, h1, Nat.lt_of_lt_of_le h2 hb.size, h3.below hb h2⟩, fun h h' => by
      rw [put_other (by decide), put_other (by decide)]
      exact I.d67 h h'⟩
theorem ci_4 {Q : Exit → Act → World → Prop} (p : Pay) (l : Fo) (q : Pay) (m : Fo) (s : ByteArray) (z : Nat) (wz w6 : World) (L : Fo) (i n pl pi pn : Nat) (a6 : Act) (c : Nat) (A : Option Addr) (lc : LC wz pl A n c L a6 w6) (hpi : CellIs w6 pi (.int .i64 (i : Int))) (hpn : pn < wz.heap.size) (hcn : w6.cell? ⟨pn, 0, none⟩ = some (.string s)) (hz6 : wz.heap.size ≤ w6.heap.size) (hi : i ≤ n) (hn7 : n ≤ 7) (M : Nat → Bool) (a : Act) (w : World) (I : CI p l q m s z wz w6 L i n pl pi pn M a w) : wpOp Tryd.prog la6Ops Q 4 (CI p l q m s z wz w6 L i n pl pi pn (fun j => if j = 4 then true else M j)) a w := by
  have hs := I.old.size
  obtain ⟨b, o, A', c', e, hlt, hnode⟩ : (Kd.ptrT q m).R (a.tmps.getD 6 undef) wz := (I.old.get 6 rfl).1
  have hk : ∀ j, w.cell? ⟨b, j, none⟩ = wz.cell? ⟨b, j, none⟩ := fun j => I.old.world.cell (p := ⟨b, j, none⟩) hlt
  have y0 := (hk o).trans hnode.kind
  have y1 := (hk (o + 1)).trans hnode.num
  have y2 := (hk (o + 2)).trans hnode.name
  have y3 := (hk (o + 3)).trans hnode.args
  have hx : ArgsB w wz.heap.size A' (Tm.len m) m := hnode.inn.below I.old.world (Nat.le_refl _)
  refine op_at (X := .load 24 (.tmp 6)) (d := some 36) (by kernel_rfl) fun ty pos after => wp_run (run_load_term w b o q A' (Tm.len m) c' e y0 y1 y2 y3) ?_
  have hb := Below.refl w.heap.size w
  exact ⟨I.old.later (put_size.trans I.old.size) I.old.defers (I.old.world.trans (hb.mono I.old.world.size)) (fun t k hk => put_other (laBase_ne (by decide) (by decide) t k hk)), I.b6.trans (hb.mono I.b6.size), (put_other (by decide)).trans I.s13, fun h => (put_other (by decide)).trans (I.d0 h), fun h => by
      obtain ⟨A', c', e, hx⟩ := I.d1 h
      exact ⟨A', c', (put_other (by decide)).trans e, hx.below hb (Nat.le_trans I.old.world.size (Nat.le_refl _))⟩, fun h => by
      rw [put_other (by decide)]
      exact (I.d2 h).mono hb fun b _ hb' => ⟨fun h6 => by rw [put_other (by decide)]; exact hb'.1 h6, fun h7 => by rw [put_other (by decide)]; exact hb'.2 h7⟩, fun h => (put_other (by decide)).trans (I.d3 h), fun _ => ⟨A', c', put_self (by omega), hx⟩, fun h => by
      rw [put_other (by decide)]
      exact (I.d5 h).mono hb fun b _ hb' => ⟨fun h6 => by rw [put_other (by decide)]; exact hb'.1 h6, fun h7 => by rw [put_other (by decide)]; exact hb'.2 h7⟩, fun h => by
      obtain ⟨b, e, h1, h2, h3⟩ := I.d6 h
      exact ⟨b, (put_other (by decide)).trans e, h1, Nat.lt_of_lt_of_le h2 hb.size, h3.below hb h2⟩, fun h => by
      obtain ⟨b, e, h1, h2, h3⟩ := I.d7 h
      exact ⟨b, (put_other (by decide)).trans e, h1, Nat.lt_of_lt_of_le h2 hb.size, h3.below hb h2⟩, fun h h' => by
      rw [put_other (by decide), put_other (by decide)]
      exact I.d67 h h'⟩
theorem ci_2 {Q : Exit → Act → World → Prop} (p : Pay) (l : Fo) (q : Pay) (m : Fo) (s : ByteArray) (z : Nat) (wz w6 : World) (L : Fo) (i n pl pi pn : Nat) (a6 : Act) (c : Nat) (A : Option Addr) (lc : LC wz pl A n c L a6 w6) (hpi : CellIs w6 pi (.int .i64 (i : Int))) (hpn : pn < wz.heap.size) (hcn : w6.cell? ⟨pn, 0, none⟩ = some (.string s)) (hz6 : wz.heap.size ≤ w6.heap.size) (hi : i ≤ n) (hn7 : n ≤ 7) (M : Nat → Bool) (a : Act) (w : World) (I : CI p l q m s z wz w6 L i n pl pi pn M a w) (hM0 : M 0 = true) (hM1 : M 1 = true) : wpOp Tryd.prog la6Ops Q 2 (CI p l q m s z wz w6 L i n pl pi pn (fun j => if j = 2 then true else M j)) a w := by
  have hs := I.old.size
  obtain ⟨A0, c0, ex, hx⟩ := I.d1 hM1
  have ef := I.d0 hM0
  have hw := I.b6
  have hplt := lc.cell.lt
  have hpit := hpi.lt
  have hcall := build_any s L i n c A p l A0 c0 pl pi pn pl w hi lc.nc hn7 lc.c63 lc.hA lc.hA2 (lc.row.below hw (Nat.le_of_lt hplt)) (hx.up lc.lo) (by have := hw.size; omega) ⟨rfl, by have := hw.size; omega, (hw.cell (p := ⟨pl, 0, none⟩) hplt).trans lc.cell.cell⟩ ⟨rfl, by have := hw.size; omega, (hw.cell (p := ⟨pi, 0, none⟩) hpit).trans hpi.cell⟩ ⟨rfl, by have := hw.size; omega, (hw.cell (p := ⟨pn, 0, none⟩) (Nat.lt_of_lt_of_le hpn hz6)).trans hcn⟩
  refine op_at (X := .call { callee := .value (.tmp 32), args := #[.tmp 33], argTypes := #[24] }) (d := some 34) (by kernel_rfl) fun ty pos after => wp_enter (run_call_closure w _ _ _ _ ef ex) (hcall.mono fun e w' hr => ?_)
  obtain ⟨A', c', he, ha, hb⟩ := hr
  refine ⟨_, he, ?_⟩
  exact ⟨I.old.later (put_size.trans I.old.size) I.old.defers (I.old.world.trans (hb.mono I.old.world.size)) (fun t k hk => put_other (laBase_ne (by decide) (by decide) t k hk)), I.b6.trans (hb.mono I.b6.size), (put_other (by decide)).trans I.s13, fun h => (put_other (by decide)).trans (I.d0 h), fun h => by
      obtain ⟨A', c', e, hx⟩ := I.d1 h
      exact ⟨A', c', (put_other (by decide)).trans e, hx.below hb (Nat.le_trans I.old.world.size (Nat.le_refl _))⟩, fun _ => by
      rw [put_self (by omega)]
      refine ⟨A', c', rfl, ha.mono fun b hb' => ⟨hb'.1, fun h6 => ?_, fun h7 => ?_⟩⟩
      · rw [put_other (by decide)]
        obtain ⟨b2, e2, h1, h2, _⟩ := I.d6 h6
        rw [e2]
        intro e3
        cases e3
        rcases hb'.2 with h3 | h3 <;> omega
      · rw [put_other (by decide)]
        obtain ⟨b2, e2, h1, h2, _⟩ := I.d7 h7
        rw [e2]
        intro e3
        cases e3
        rcases hb'.2 with h3 | h3 <;> omega, fun h => (put_other (by decide)).trans (I.d3 h), fun h => by
      obtain ⟨A', c', e, hx⟩ := I.d4 h
      exact ⟨A', c', (put_other (by decide)).trans e, hx.below hb (Nat.le_trans I.old.world.size (Nat.le_refl _))⟩, fun h => by
      rw [put_other (by decide)]
      exact (I.d5 h).mono hb fun b _ hb' => ⟨fun h6 => by rw [put_other (by decide)]; exact hb'.1 h6, fun h7 => by rw [put_other (by decide)]; exact hb'.2 h7⟩, fun h => by
      obtain ⟨b, e, h1, h2, h3⟩ := I.d6 h
      exact ⟨b, (put_other (by decide)).trans e, h1, Nat.lt_of_lt_of_le h2 hb.size, h3.below hb h2⟩, fun h => by
      obtain ⟨b, e, h1, h2, h3⟩ := I.d7 h
      exact ⟨b, (put_other (by decide)).trans e, h1, Nat.lt_of_lt_of_le h2 hb.size, h3.below hb h2⟩, fun h h' => by
      rw [put_other (by decide), put_other (by decide)]
      exact I.d67 h h'⟩
theorem ci_5 {Q : Exit → Act → World → Prop} (p : Pay) (l : Fo) (q : Pay) (m : Fo) (s : ByteArray) (z : Nat) (wz w6 : World) (L : Fo) (i n pl pi pn : Nat) (a6 : Act) (c : Nat) (A : Option Addr) (lc : LC wz pl A n c L a6 w6) (hpi : CellIs w6 pi (.int .i64 (i : Int))) (hpn : pn < wz.heap.size) (hcn : w6.cell? ⟨pn, 0, none⟩ = some (.string s)) (hz6 : wz.heap.size ≤ w6.heap.size) (hi : i ≤ n) (hn7 : n ≤ 7) (M : Nat → Bool) (a : Act) (w : World) (I : CI p l q m s z wz w6 L i n pl pi pn M a w) (hM0 : M 3 = true) (hM1 : M 4 = true) : wpOp Tryd.prog la6Ops Q 5 (CI p l q m s z wz w6 L i n pl pi pn (fun j => if j = 5 then true else M j)) a w := by
  have hs := I.old.size
  obtain ⟨A0, c0, ex, hx⟩ := I.d4 hM1
  have ef := I.d3 hM0
  have hw := I.b6
  have hplt := lc.cell.lt
  have hpit := hpi.lt
  have hcall := build_any s L i n c A q m A0 c0 pl pi pn pl w hi lc.nc hn7 lc.c63 lc.hA lc.hA2 (lc.row.below hw (Nat.le_of_lt hplt)) (hx.up lc.lo) (by have := hw.size; omega) ⟨rfl, by have := hw.size; omega, (hw.cell (p := ⟨pl, 0, none⟩) hplt).trans lc.cell.cell⟩ ⟨rfl, by have := hw.size; omega, (hw.cell (p := ⟨pi, 0, none⟩) hpit).trans hpi.cell⟩ ⟨rfl, by have := hw.size; omega, (hw.cell (p := ⟨pn, 0, none⟩) (Nat.lt_of_lt_of_le hpn hz6)).trans hcn⟩
  refine op_at (X := .call { callee := .value (.tmp 35), args := #[.tmp 36], argTypes := #[24] }) (d := some 37) (by kernel_rfl) fun ty pos after => wp_enter (run_call_closure w _ _ _ _ ef ex) (hcall.mono fun e w' hr => ?_)
  obtain ⟨A', c', he, ha, hb⟩ := hr
  refine ⟨_, he, ?_⟩
  exact ⟨I.old.later (put_size.trans I.old.size) I.old.defers (I.old.world.trans (hb.mono I.old.world.size)) (fun t k hk => put_other (laBase_ne (by decide) (by decide) t k hk)), I.b6.trans (hb.mono I.b6.size), (put_other (by decide)).trans I.s13, fun h => (put_other (by decide)).trans (I.d0 h), fun h => by
      obtain ⟨A', c', e, hx⟩ := I.d1 h
      exact ⟨A', c', (put_other (by decide)).trans e, hx.below hb (Nat.le_trans I.old.world.size (Nat.le_refl _))⟩, fun h => by
      rw [put_other (by decide)]
      exact (I.d2 h).mono hb fun b _ hb' => ⟨fun h6 => by rw [put_other (by decide)]; exact hb'.1 h6, fun h7 => by rw [put_other (by decide)]; exact hb'.2 h7⟩, fun h => (put_other (by decide)).trans (I.d3 h), fun h => by
      obtain ⟨A', c', e, hx⟩ := I.d4 h
      exact ⟨A', c', (put_other (by decide)).trans e, hx.below hb (Nat.le_trans I.old.world.size (Nat.le_refl _))⟩, fun _ => by
      rw [put_self (by omega)]
      refine ⟨A', c', rfl, ha.mono fun b hb' => ⟨hb'.1, fun h6 => ?_, fun h7 => ?_⟩⟩
      · rw [put_other (by decide)]
        obtain ⟨b2, e2, h1, h2, _⟩ := I.d6 h6
        rw [e2]
        intro e3
        cases e3
        rcases hb'.2 with h3 | h3 <;> omega
      · rw [put_other (by decide)]
        obtain ⟨b2, e2, h1, h2, _⟩ := I.d7 h7
        rw [e2]
        intro e3
        cases e3
        rcases hb'.2 with h3 | h3 <;> omega, fun h => by
      obtain ⟨b, e, h1, h2, h3⟩ := I.d6 h
      exact ⟨b, (put_other (by decide)).trans e, h1, Nat.lt_of_lt_of_le h2 hb.size, h3.below hb h2⟩, fun h => by
      obtain ⟨b, e, h1, h2, h3⟩ := I.d7 h
      exact ⟨b, (put_other (by decide)).trans e, h1, Nat.lt_of_lt_of_le h2 hb.size, h3.below hb h2⟩, fun h h' => by
      rw [put_other (by decide), put_other (by decide)]
      exact I.d67 h h'⟩
theorem ci_6 {Q : Exit → Act → World → Prop} (p : Pay) (l : Fo) (q : Pay) (m : Fo) (s : ByteArray) (z : Nat) (wz w6 : World) (L : Fo) (i n pl pi pn : Nat) (a6 : Act) (c : Nat) (A : Option Addr) (lc : LC wz pl A n c L a6 w6) (hpi : CellIs w6 pi (.int .i64 (i : Int))) (hpn : pn < wz.heap.size) (hcn : w6.cell? ⟨pn, 0, none⟩ = some (.string s)) (hz6 : wz.heap.size ≤ w6.heap.size) (hi : i ≤ n) (hn7 : n ≤ 7) (M : Nat → Bool) (a : Act) (w : World) (I : CI p l q m s z wz w6 L i n pl pi pn M a w) : wpOp Tryd.prog la6Ops Q 6 (CI p l q m s z wz w6 L i n pl pi pn (fun j => if j = 6 then true else M j)) a w := by
  have hs := I.old.size
  refine op_at (X := .alloc 24) (d := some 14) (by kernel_rfl) fun ty pos after => wp_alloc_op ?_
  have hb : Below w.heap.size w (w.alloc (.cells #[.int .i64 0, .int .i64 0, .string ⟨#[]⟩, .slice none 0 0] 24)) := (Below.refl _ _).alloc (Nat.le_refl _) _
  exact ⟨I.old.later (put_size.trans I.old.size) I.old.defers (I.old.world.trans (hb.mono I.old.world.size)) (fun t k hk => put_other (laBase_ne (by decide) (by decide) t k hk)), I.b6.trans (hb.mono I.b6.size), (put_other (by decide)).trans I.s13, fun h => (put_other (by decide)).trans (I.d0 h), fun h => by
      obtain ⟨A', c', e, hx⟩ := I.d1 h
      exact ⟨A', c', (put_other (by decide)).trans e, hx.below hb (Nat.le_trans I.old.world.size (Nat.le_refl _))⟩, fun h => by
      rw [put_other (by decide)]
      exact (I.d2 h).mono hb fun b hlt hb' => ⟨fun _ => by rw [put_self (by omega)]; intro e; cases e; omega, fun h7 => by rw [put_other (by decide)]; exact hb'.2 h7⟩, fun h => (put_other (by decide)).trans (I.d3 h), fun h => by
      obtain ⟨A', c', e, hx⟩ := I.d4 h
      exact ⟨A', c', (put_other (by decide)).trans e, hx.below hb (Nat.le_trans I.old.world.size (Nat.le_refl _))⟩, fun h => by
      rw [put_other (by decide)]
      exact (I.d5 h).mono hb fun b hlt hb' => ⟨fun _ => by rw [put_self (by omega)]; intro e; cases e; omega, fun h7 => by rw [put_other (by decide)]; exact hb'.2 h7⟩, fun _ => ⟨w.heap.size, put_self (by omega), I.b6.size, by rw [World.size_alloc]; omega, ResAt.new w _ _ rfl⟩, fun h => by
      obtain ⟨b, e, h1, h2, h3⟩ := I.d7 h
      exact ⟨b, (put_other (by decide)).trans e, h1, Nat.lt_of_lt_of_le h2 hb.size, h3.below hb h2⟩, fun h6 h7 => by
      rw [put_self (by omega), put_other (by decide)]
      obtain ⟨b, e, _, h2, _⟩ := I.d7 h7
      rw [e]
      intro e
      cases e
      omega⟩
theorem ci_7 {Q : Exit → Act → World → Prop} (p : Pay) (l : Fo) (q : Pay) (m : Fo) (s : ByteArray) (z : Nat) (wz w6 : World) (L : Fo) (i n pl pi pn : Nat) (a6 : Act) (c : Nat) (A : Option Addr) (lc : LC wz pl A n c L a6 w6) (hpi : CellIs w6 pi (.int .i64 (i : Int))) (hpn : pn < wz.heap.size) (hcn : w6.cell? ⟨pn, 0, none⟩ = some (.string s)) (hz6 : wz.heap.size ≤ w6.heap.size) (hi : i ≤ n) (hn7 : n ≤ 7) (M : Nat → Bool) (a : Act) (w : World) (I : CI p l q m s z wz w6 L i n pl pi pn M a w) : wpOp Tryd.prog la6Ops Q 7 (CI p l q m s z wz w6 L i n pl pi pn (fun j => if j = 7 then true else M j)) a w := by
  have hs := I.old.size
  refine op_at (X := .alloc 24) (d := some 15) (by kernel_rfl) fun ty pos after => wp_alloc_op ?_
  have hb : Below w.heap.size w (w.alloc (.cells #[.int .i64 0, .int .i64 0, .string ⟨#[]⟩, .slice none 0 0] 24)) := (Below.refl _ _).alloc (Nat.le_refl _) _
  exact ⟨I.old.later (put_size.trans I.old.size) I.old.defers (I.old.world.trans (hb.mono I.old.world.size)) (fun t k hk => put_other (laBase_ne (by decide) (by decide) t k hk)), I.b6.trans (hb.mono I.b6.size), (put_other (by decide)).trans I.s13, fun h => (put_other (by decide)).trans (I.d0 h), fun h => by
      obtain ⟨A', c', e, hx⟩ := I.d1 h
      exact ⟨A', c', (put_other (by decide)).trans e, hx.below hb (Nat.le_trans I.old.world.size (Nat.le_refl _))⟩, fun h => by
      rw [put_other (by decide)]
      exact (I.d2 h).mono hb fun b hlt hb' => ⟨fun h6 => by rw [put_other (by decide)]; exact hb'.1 h6, fun _ => by rw [put_self (by omega)]; intro e; cases e; omega⟩, fun h => (put_other (by decide)).trans (I.d3 h), fun h => by
      obtain ⟨A', c', e, hx⟩ := I.d4 h
      exact ⟨A', c', (put_other (by decide)).trans e, hx.below hb (Nat.le_trans I.old.world.size (Nat.le_refl _))⟩, fun h => by
      rw [put_other (by decide)]
      exact (I.d5 h).mono hb fun b hlt hb' => ⟨fun h6 => by rw [put_other (by decide)]; exact hb'.1 h6, fun _ => by rw [put_self (by omega)]; intro e; cases e; omega⟩, fun h => by
      obtain ⟨b, e, h1, h2, h3⟩ := I.d6 h
      exact ⟨b, (put_other (by decide)).trans e, h1, Nat.lt_of_lt_of_le h2 hb.size, h3.below hb h2⟩, fun _ => ⟨w.heap.size, put_self (by omega), I.b6.size, by rw [World.size_alloc]; omega, ResAt.new w _ _ rfl⟩, fun h6 h7 => by
      rw [put_other (by decide), put_self (by omega)]
      obtain ⟨b, e, _, h2, _⟩ := I.d6 h6
      rw [e]
      intro e
      cases e
      omega⟩
theorem res_node {w w2 : World} {b b' : Nat} {s : ByteArray} {A' : Option Addr} {nn c' : Nat} {U : Fo} {X : Nat → Prop} (hl : Tm.len U = nn) (ht : TermAt w2 b (3, 0, s) A' nn c') (ha : ArgsIn (fun b => b < w.heap.size ∧ X b) w A' nn U) (hX : ∀ x, X x → x ≠ b ∧ x ≠ b') (ho : Only (fun x => x = b ∨ x = b') w w2) (hb : b < w.heap.size) :
    ∃ A c, b < w2.heap.size ∧ NodeAt (fun x => x < w2.heap.size) w2 b 0 (3, 0, s) U A c := by
  subst hl
  refine ⟨A', c', Nat.lt_of_lt_of_le hb ho.size, ht.kind, ht.num, ht.name, ht.args, (ha.keep fun x hx => ho.block x hx.1 fun e => ?_).mono fun x hx => Nat.lt_of_lt_of_le hx.1 ho.size⟩
  rcases e with e | e
  · exact (hX x hx.2).1 e
  · exact (hX x hx.2).2 e
theorem uu_len (L : Fo) (i n : Nat) (p : Pay) (l : Fo) (hi : i ≤ n) (hL : Tm.len L = n) : Tm.len (Tm.app (Tm.app (Tm.takeF L i) (.node p l .nil)) (Tm.dropF L i)) = (i + 1 + (n - i)) := by
  rw [Tm.len_app, Tm.len_app, Tm.takeF_len L i (by omega), Tm.len_drop, hL]
  show i + (0 + 1) + (n - i) = _
  omega
theorem la6_region {Q : Exit → Act → World → Prop} (p : Pay) (l : Fo) (q : Pay) (m : Fo) (s : ByteArray) (z : Nat) (wz : World) (L : Fo) (i n pl pi pn c : Nat) (A : Option Addr) {a : Act} {w : World} (h : Hold 83 (oldEnv (laBase p l q m s z) wz) wz a w) (lc : LC wz pl A n c L a w) (hpi : CellIs w pi (.int .i64 (i : Int))) (hpn : pn < wz.heap.size) (hcn : w.cell? ⟨pn, 0, none⟩ = some (.string s)) (h13 : a.tmps.getD 13 undef = (.func (.func 29) #[] #[.pointer (some ⟨pl, 0, none⟩), .pointer (some ⟨pi, 0, none⟩), .pointer (some ⟨pn, 0, none⟩)])) (hi : i ≤ n) (hn7 : n ≤ 7)
    (hQ : ∀ a' w', Hold 83 [(5, Kd.ptrT p l), (6, .ptrT q m), (7, .sat (varP (.string s))), (14, .ptrT (3, 0, s) (Tm.app (Tm.app (Tm.takeF L i) (.node p l .nil)) (Tm.dropF L i))), (15, .ptrT (3, 0, s) (Tm.app (Tm.app (Tm.takeF L i) (.node q m .nil)) (Tm.dropF L i))), (999, .tabs)] wz a' w' → Q .normal a' w') : (Code.region 6 la6Ops true).wp Tryd.prog Q a w := by
  have hz6 := h.world.size
  have hLn := lc.row.len
  refine region_inv (n := 10) (m := 8) (by kernel_rfl) (by decide) (by kernel_rfl) (by kernel_rfl) (CI p l q m s z wz w L i n pl pi pn) ?_ ?_ ?_
  · have hb := drawn_below w
    have F : ∀ {P : Prop}, false = true → P := fun h => by cases h
    exact ⟨h.later h.size h.defers (h.world.trans (hb.mono h.world.size)) (fun _ _ _ => rfl), hb, h13, fun h => F h, fun h => F h, fun h => F h, fun h => F h, fun h => F h, fun h => F h, fun h => F h, fun h => F h, fun h => F h⟩
  · intro M a' w' i' o hi' ho' hun hdep I
    have hdeps : ∀ j, ((la6Ops[i']?).map fun o => o.after.any fun e => Region.binds .any e && e.on == j) = some true → M j = true := fun j hj => by
      rw [ho'] at hj
      have hj := Option.some.inj hj
      obtain ⟨e, he, hb⟩ := Array.any_eq_true'.1 hj
      simp only [Bool.and_eq_true, beq_iff_eq] at hb
      rw [← hb.2]
      exact hdep e he hb.1
    have h6' : i' = 0 ∨ i' = 1 ∨ i' = 2 ∨ i' = 3 ∨ i' = 4 ∨ i' = 5 ∨ i' = 6 ∨ i' = 7 := by omega
    rcases h6' with rfl | rfl | rfl | rfl | rfl | rfl | rfl | rfl
    · exact ci_0 p l q m s z wz w L i n pl pi pn a c A lc hpi hpn hcn hz6 hi hn7 M a' w' I
    · exact ci_1 p l q m s z wz w L i n pl pi pn a c A lc hpi hpn hcn hz6 hi hn7 M a' w' I
    · exact ci_2 p l q m s z wz w L i n pl pi pn a c A lc hpi hpn hcn hz6 hi hn7 M a' w' I (hdeps 0 (by kernel_rfl)) (hdeps 1 (by kernel_rfl))
    · exact ci_3 p l q m s z wz w L i n pl pi pn a c A lc hpi hpn hcn hz6 hi hn7 M a' w' I
    · exact ci_4 p l q m s z wz w L i n pl pi pn a c A lc hpi hpn hcn hz6 hi hn7 M a' w' I
    · exact ci_5 p l q m s z wz w L i n pl pi pn a c A lc hpi hpn hcn hz6 hi hn7 M a' w' I (hdeps 3 (by kernel_rfl)) (hdeps 4 (by kernel_rfl))
    · exact ci_6 p l q m s z wz w L i n pl pi pn a c A lc hpi hpn hcn hz6 hi hn7 M a' w' I
    · exact ci_7 p l q m s z wz w L i n pl pi pn a c A lc hpi hpn hcn hz6 hi hn7 M a' w' I
  · intro M a w' hM I
    show wpOps _ _ _ [8, 9] a w'
    have m6 := hM 6 (by decide)
    have m7 := hM 7 (by decide)
    obtain ⟨A1, c1, e34, ha1⟩ := I.d2 (hM 2 (by decide))
    obtain ⟨A2, c2, e37, ha2⟩ := I.d5 (hM 5 (by decide))
    obtain ⟨b1, e14, h61, hl1, r1⟩ := I.d6 m6
    obtain ⟨b2, e15, h62, hl2, r2⟩ := I.d7 m7
    have hne : b1 ≠ b2 := fun e => I.d67 m6 m7 (by rw [e14, e15, e])
    have hX : ∀ x, ((M 6 = true → a.tmps.getD 14 undef ≠ .pointer (some ⟨x, 0, none⟩)) ∧ (M 7 = true → a.tmps.getD 15 undef ≠ .pointer (some ⟨x, 0, none⟩))) → x ≠ b1 ∧ x ≠ b2 := fun x hx => ⟨fun e => hx.1 m6 (by rw [e14, e]), fun e => hx.2 m7 (by rw [e15, e])⟩
    refine ops_at (X := .store 24 (.tmp 14) (.tmp 34)) (d := none) (by kernel_rfl) fun ty pos after => wp_skips (run_store_new w' b1 (3, 0, s) A1 (i + 1 + (n - i)) c1 e14 e34 r1) ?_
    have r2' : ResAt (set4 w' b1 0 (3, 0, s) A1 (i + 1 + (n - i)) c1) b2 := r2.same (set4_block _ _ _ _ _ _ _ b2 (Ne.symm hne))
    refine ops_at (X := .store 24 (.tmp 15) (.tmp 37)) (d := none) (by kernel_rfl) fun ty pos after => wp_skips (run_store_new _ b2 (3, 0, s) A2 (i + 1 + (n - i)) c2 e15 e37 r2') ?_
    show Q .normal _ _
    have t1 := (stored w' b1 (3, 0, s) zp A1 none (i + 1 + (n - i)) c1 0 0 r1.t r1.s).term
    have t2 := (stored (set4 w' b1 0 (3, 0, s) A1 (i + 1 + (n - i)) c1) b2 (3, 0, s) zp A2 none (i + 1 + (n - i)) c2 0 0 r2'.t r2'.s).term
    have t1' : TermAt (set4 (set4 w' b1 0 (3, 0, s) A1 (i + 1 + (n - i)) c1) b2 0 (3, 0, s) A2 (i + 1 + (n - i)) c2) b1 (3, 0, s) A1 (i + 1 + (n - i)) c1 := t1.same (set4_block _ _ _ _ _ _ _ b1 hne)
    have ho : Only (fun x => x = b1 ∨ x = b2) w' (set4 (set4 w' b1 0 (3, 0, s) A1 (i + 1 + (n - i)) c1) b2 0 (3, 0, s) A2 (i + 1 + (n - i)) c2) := set4_in _ _ _ _ _ _ (set4_in _ _ _ _ _ _ (Only.refl _ _) (.inl rfl)) (.inr rfl)
    obtain ⟨B1, d1, g1, n1⟩ := res_node (b' := b2) (uu_len L i n p l hi hLn) t1' ha1 hX ho hl1
    obtain ⟨B2, d2, g2, n2⟩ := res_node (b' := b1) (uu_len L i n q m hi hLn) t2 ha2 (fun x hx => ⟨(hX x hx).2, (hX x hx).1⟩) (ho.mono fun k hk => hk.symm) hl2
    have hb2 : Below wz.heap.size w' (set4 (set4 w' b1 0 (3, 0, s) A1 (i + 1 + (n - i)) c1) b2 0 (3, 0, s) A2 (i + 1 + (n - i)) c2) := ho.below I.old.world.size fun k hk => by rcases hk with rfl | rfl <;> omega
    have hb3 := I.old.world.trans hb2
    have hh := I.old.later (a' := a) I.old.size I.old.defers hb3 (fun _ _ _ => rfl)
    exact hQ _ _ ⟨hh.size, hh.defers, hb3, slots_cons 5 (oldP.to (hh.get 5 rfl)) (slots_cons 6 (oldP.to (hh.get 6 rfl)) (slots_cons 7 (oldP.to (hh.get 7 rfl)) (slots_cons 14 ⟨b1, 0, B1, d1, e14, g1, n1⟩ (slots_cons 15 ⟨b2, 0, B2, d2, e15, g2, n2⟩ (slots_cons 999 (k0 := .tabs) (oldP.to (k := .tabs) (hh.get 999 rfl)) slots_nil)))))⟩
theorem step_x_b {ops : Array Oper} {Q : Exit → Act → World → Prop} {E : Nat → Kd} {D : Nat → Nat} {base : Nat → Option Kd} {N : Nat} {i : Nat} {x : Operand} {n : Int} {wy : World} (ss : Nat) (hop : (ops[i]?).map (·.op) = some (.call { callee := .value (.func 30), args := #[x], argTypes := #[2] })) (hx : Opd ops E D base N i x (.val (.int .i64 n))) (hs : Opd ops E D base N i (.tmp ss) (.sat (oldP .any wy))) (hE : E i = .sat (bT wy.heap.size (0, n, ByteArray.empty) .nil)) : Step Tryd.prog ops Q E D base N i :=
  step_call hop (fun _ _ => by kernel_rfl) fun a w h => by
    have ex : a.eval x = .int .i64 n := hx a w h
    have hb0 : Below wy.heap.size wy w := (hs a w h).2
    rw [show (#[x] : Array Operand).map a.eval = #[.int .i64 n] by rw [← ex]; simp]
    exact (x_any n w).mono fun e w' ⟨he, hb⟩ => ⟨_, he, by rw [hE]; exact ⟨none, 0, rfl, ArgsIn.nil _ _ _, Nat.le_trans hb0.size hb.size⟩, hb⟩
theorem Hold.unold {N : Nat} {env : Env} {w1 w : World} {a : Act} (h : Hold N (oldEnv env w1) w1 a w) : Hold N env w1 a w :=
  ⟨h.size, h.defers, h.world, fun t k hk => oldP.to (h.slots t _ (by rw [look_old, hk]; rfl))⟩
theorem Hold.base {N : Nat} {env : Env} {w0 w1 w : World} {a : Act} (h : Hold N env w1 a w) (hb : Below w0.heap.size w0 w1) : Hold N env w0 a w := ⟨h.size, h.defers, hb.trans (h.world.mono hb.size), h.slots⟩
theorem env7_ne {U V : Fo} {s : ByteArray} {d : Nat} (hd : 15 < d) (hd2 : d < 990) : ∀ t k, look [(7, Kd.sat (varP (.string s))), (14, .ptrT (3, 0, s) U), (15, .ptrT (3, 0, s) V), (999, .tabs)] t = some k → t ≠ d := by
  intro t k hk
  unfold look at hk
  obtain ⟨e, he, _⟩ := Option.map_eq_some_iff.1 hk
  have h1 := List.find?_some he
  have h2 := List.mem_of_find?_eq_some he
  have h3 : e.1 = t := by simpa using h1
  simp only [List.mem_cons, List.not_mem_nil, or_false] at h2
  rcases h2 with rfl | rfl | rfl | rfl <;> (subst h3; dsimp only; omega)
theorem la11_region {Q : Exit → Act → World → Prop} (s : ByteArray) (U V : Fo) (hUn : Tm.len U ≤ 50000) {wz : World} {a : Act} {w : World} (h : Hold 83 [(7, Kd.sat (varP (.string s))), (14, .ptrT (3, 0, s) U), (15, .ptrT (3, 0, s) V), (999, .tabs)] wz a w)
    (hQ : ∀ a' w', Hold 83 ((16, .ptrT (3, 0, ⟨#[]⟩) (Tm.app U (.node (0, 0, ByteArray.empty) .nil .nil))) :: [(7, Kd.sat (varP (.string s))), (14, .ptrT (3, 0, s) U), (15, .ptrT (3, 0, s) V), (999, .tabs)]) wz a' w' → Q .normal a' w') : (Code.region 11 la11Ops false).wp Tryd.prog Q a w := by
  have hwz := h.world
  have hz := h.olds
  have h0 : Hold 83 [(14, .ptrT (3, 0, s) U), (998, .sat (oldP .any w))] w a w := ⟨h.size, h.defers, Below.refl _ _, slots_cons 14 (h.get 14 rfl) (slots_cons 998 ⟨trivial, Below.refl _ _⟩ slots_nil)⟩
  refine region_seq (w0 := w) 9 (by kernel_rfl) ?_
  rw [show List.range 9 = [0, 1, 2, 3, 4, 5, 6, 7, 8] from rfl]
  refine env_one' (i := 0) (d := 51) (k := .ptrR U) (step_field3 (by kernel_rfl) (Opd.of_base 14 rfl) rfl) (by kernel_rfl) (by decide) h0 ?_
  intro a1 w1 q1 g1
  refine env_one' (i := 1) (d := 52) (k := .row U) (step_load_row (by kernel_rfl) (Opd.of_base 51 rfl) rfl) (by kernel_rfl) (by decide) q1 ?_
  intro a2 w2 q2 g2
  obtain ⟨A, c, e52, ha⟩ := q2.get 52 rfl
  have hs2 := q2.size
  have hsrc : SrcB w2.heap.size w2 A (Tm.len U) U := ⟨rfl, fun h0 => by obtain ⟨b, o, e, hb, hr⟩ := ha.row h0; exact ⟨b, o, e, hb, hr⟩, Nat.le_refl _⟩
  refine ops_at (X := .call { callee := .builtin .append, args := #[.const (.slice none 0 0), .tmp 52], argTypes := #[22, 22] }) (d := some 53) (by kernel_rfl) fun ty pos after => wp_append_B (.const (.slice none 0 0)) (.tmp 52) rfl (OwnB.start (B := w2.heap.size) (Nat.le_refl _) (Nat.le_refl _)) rfl e52 hsrc (by omega) fun A3 c3 w3 o3 b3 => ?_
  have h3 : Hold 83 [(53, .val (.slice A3 (0 + Tm.len U) c3)), (996, .sat (ownBP w2.heap.size w2.heap.size A3 (0 + Tm.len U) c3 (Tm.app .nil U))), (998, .sat (oldP .any w2))] w2 (a2.put (some 53) (.slice A3 (0 + Tm.len U) c3)) w3 := ⟨put_size.trans hs2, q2.defers, b3, slots_cons 53 (put_self (by omega)) (slots_cons 996 o3 (slots_cons 998 ⟨trivial, b3⟩ slots_nil))⟩
  refine env_one' (i := 3) (d := 54) (k := .sat (bT w2.heap.size (0, 0, ByteArray.empty) .nil)) (step_x_b 998 (by kernel_rfl) (Opd.const _) (Opd.of_base 998 rfl) rfl) (by kernel_rfl) (by decide) h3 ?_
  intro a4 w4 q4 g4
  refine env_one' (i := 4) (d := 55) (k := .sat (bR w2.heap.size (.node (0, 0, ByteArray.empty) .nil .nil))) (step_slice1_b (by kernel_rfl) (Opd.of_base 54 rfl) rfl) (by kernel_rfl) (by decide) q4 ?_
  intro a5 w5 q5 g5
  obtain ⟨A5, c5, e55, hs5⟩ := q5.get 55 rfl
  have hsz5 := q5.size
  refine ops_at (X := .call { callee := .builtin .append, args := #[.tmp 53, .tmp 55], argTypes := #[22, 22] }) (d := some 56) (by kernel_rfl) fun ty pos after => wp_append_B (.tmp 53) (.tmp 55) rfl (q5.get 996 rfl) (q5.get 53 rfl) e55 hs5 (by simp only [Tm.len]; omega) fun A6 c6 w6 o6 b6 => ?_
  have hl6 := o6.len
  have hF : Tm.app (Tm.app .nil U) (.node (0, 0, ByteArray.empty) .nil .nil) = Tm.app U (.node (0, 0, ByteArray.empty) .nil .nil) := rfl
  rw [hF] at o6 hl6
  obtain ⟨nn, hnn⟩ : ∃ x, x = 0 + Tm.len U + Tm.len (Fo.node (0, 0, ByteArray.empty) .nil .nil) := ⟨_, rfl⟩
  rw [← hnn] at o6 hl6 ⊢
  have hn50 : nn ≤ 60000 := by rw [hnn]; simp only [Tm.len]; omega
  refine ops_at (X := .build 24 #[(0, .const (.int .i64 3)), (2, .const (.string ⟨#[]⟩)), (3, .tmp 56)]) (d := some 57) (by kernel_rfl) fun ty pos after => wp_run (run_build3 w6 ⟨#[]⟩ A6 nn c6 rfl (put_self (by omega))) ?_
  refine ops_at (X := .alloc 24) (d := some 16) (by kernel_rfl) fun ty pos after => wp_alloc_op ?_
  refine ops_at (X := .store 24 (.tmp 16) (.tmp 57)) (d := none) (by kernel_rfl) fun ty pos after => wp_store_op (3, 0, ⟨#[]⟩) A6 nn c6 (put_self (by rw [put_size, put_size]; omega)) ((put_other (by decide)).trans (put_self (by rw [put_size]; omega))) ?_
  show Q .normal _ _
  have hargs : ArgsB w6 w6.heap.size A6 nn (Tm.app U (.node (0, 0, ByteArray.empty) .nil .nil)) := (o6.args (by omega)).mono fun b hb => hb.1
  have hbox := box_R w6 (3, 0, ⟨#[]⟩) (Tm.app U (.node (0, 0, ByteArray.empty) .nil .nil)) A6 c6 (by rw [hl6]; exact hargs)
  rw [hl6] at hbox
  have hb7 : Below w6.heap.size w6 (w6.alloc (.cells #[.int .i64 3, .int .i64 0, .string ⟨#[]⟩, .slice A6 nn c6] 24)) := (Below.refl _ _).alloc (Nat.le_refl _) _
  have hw2 := q2.world
  have hbf : Below w.heap.size w (w6.alloc (.cells #[.int .i64 3, .int .i64 0, .string ⟨#[]⟩, .slice A6 nn c6] 24)) := hw2.trans (((q5.world.trans (b6.mono (Nat.le_refl _))).mono hw2.size).trans (hb7.mono (Nat.le_trans hw2.size (Nat.le_trans q5.world.size b6.size))))
  have hall := hz.later (a' := (((a5.put (some 56) (.slice A6 nn c6)).put (some 57) (tv (3, 0, ⟨#[]⟩) A6 nn c6)).put (some 16) (.pointer (some ⟨w6.heap.size, 0, none⟩)))) (put_size.trans (put_size.trans (put_size.trans hsz5))) q5.defers hbf fun t k hk => by
    have hne : ∀ d, 15 < d → d < 990 → t ≠ d := fun d h1 h2 => env7_ne h1 h2 t k hk
    rw [put_other (hne 16 (by decide) (by decide)), put_other (hne 57 (by decide) (by decide)), put_other (hne 56 (by decide) (by decide)), g5 t (hne 55 (by decide) (by decide)), g4 t (hne 54 (by decide) (by decide)), put_other (hne 53 (by decide) (by decide)), g2 t (hne 52 (by decide) (by decide)), g1 t (hne 51 (by decide) (by decide))]
  have hfin := (hall.unold.base hwz)
  refine hQ _ _ ⟨hfin.size, hfin.defers, hfin.world, fun t k hk => ?_⟩
  rw [look_cons] at hk
  by_cases h16 : 16 = t
  · subst h16
    rw [if_pos (by decide)] at hk
    cases hk
    rw [put_self (by rw [put_size, put_size]; omega)]
    exact hbox
  · rw [if_neg (by simpa using h16)] at hk
    exact hfin.slots t k hk
theorem allB_app : ∀ (F G : Fo), Tm.allB (Tm.app F G) = (Tm.allB F && Tm.allB G)
  | .nil, G => by simp [Tm.app, Tm.allB]
  | .node p l r, G => by
    show Tm.allB (.node p l (Tm.app r G)) = _
    rw [Tm.allB_cons, Tm.allB_cons, allB_app r G, Bool.and_assoc]
theorem cmpF_app : ∀ (X G H : Fo), Tm.cmpF (Tm.app X G) (Tm.app X H) = Tm.cmpF G H
  | .nil, G, H => rfl
  | .node p l r, G, H => by
    show Tm.cmpF (.node p l (Tm.app r G)) (.node p l (Tm.app r H)) = _
    rw [Tm.cmpF_cons, cmpF_app r G H, Tm.cmpT_zero.2 ⟨rfl, rfl⟩]
    rfl
theorem part_valid {s : ByteArray} {X Y : Fo} {p : Pay} {l : Fo} (h : Tm.validB (3, 0, s) (Tm.app (Tm.app X (.node p l .nil)) Y) = true) : Tm.validB p l = true := by
  unfold Tm.validB Tm.goodB at h ⊢
  rw [Bool.and_eq_true, decide_eq_true_eq] at h ⊢
  obtain ⟨h1, h2⟩ := h
  rw [Tm.size_app, Tm.size_app] at h1
  simp only [Tm.size] at h1
  rw [Bool.and_eq_true, allB_app, allB_app, Bool.and_eq_true, Bool.and_eq_true] at h2
  have h3 := h2.2.1.2
  rw [Tm.allB_cons, Bool.and_eq_true] at h3
  exact ⟨by omega, h3.1⟩
theorem args_cmp {L : Fo} {i : Nat} {p q : Pay} {l m : Fo} {s : ByteArray} (h : Tm.validB (3, 0, s) (Tm.app (Tm.app (Tm.takeF L i) (.node p l .nil)) (Tm.dropF L i)) = true) (h' : Tm.validB (3, 0, s) (Tm.app (Tm.app (Tm.takeF L i) (.node q m .nil)) (Tm.dropF L i)) = true) : Tm.cmpV (3, 0, s) (Tm.app (Tm.app (Tm.takeF L i) (.node p l .nil)) (Tm.dropF L i)) (3, 0, s) (Tm.app (Tm.app (Tm.takeF L i) (.node q m .nil)) (Tm.dropF L i)) = Tm.cmpV p l q m := by
  rw [Tm.cmpV_of h h', Tm.cmpV_of (part_valid h) (part_valid h')]
  unfold Tm.cmpT
  have hl : Tm.len (Tm.app (Tm.app (Tm.takeF L i) (.node p l .nil)) (Tm.dropF L i)) = Tm.len (Tm.app (Tm.app (Tm.takeF L i) (.node q m .nil)) (Tm.dropF L i)) := by simp only [Tm.len_app, Tm.len]
  rw [Tm.headC_zero.2 ⟨rfl, hl⟩]
  show Tm.cmpF (Tm.app (Tm.app (Tm.takeF L i) (.node p l .nil)) (Tm.dropF L i)) (Tm.app (Tm.app (Tm.takeF L i) (.node q m .nil)) (Tm.dropF L i)) = _
  rw [Tm.app_assoc, Tm.app_assoc, cmpF_app]
  show Tm.cmpF (.node p l (Tm.dropF L i)) (.node q m (Tm.dropF L i)) = Tm.cmpT p l q m
  rw [Tm.cmpF_cons, (Tm.cmpF_zero _ _).2 rfl]
  unfold Tm.lex
  split
  · rename_i e; exact e.symm
  · rfl
theorem two_valid {s : ByteArray} {U V : Fo} (h : Tm.allV (.node (3, 0, s) U (.node (3, 0, s) V .nil)) = true) : Tm.validB (3, 0, s) U = true ∧ Tm.validB (3, 0, s) V = true := by
  have hv : (Tm.validB (3, 0, s) U && (Tm.validB (3, 0, s) V && true)) = true := h
  simp only [Bool.and_eq_true, Bool.and_true] at hv
  exact hv
theorem more_cmp {s : ByteArray} {U : Fo} (h : Tm.validB (3, 0, s) U = true) (h' : Tm.validB (3, 0, ⟨#[]⟩) (Tm.app U (.node (0, 0, ByteArray.empty) .nil .nil)) = true) : Tm.cmpV (3, 0, s) U (3, 0, ⟨#[]⟩) (Tm.app U (.node (0, 0, ByteArray.empty) .nil .nil)) = -1 := by
  rw [Tm.cmpV_of h h']
  have hl : Tm.len (Tm.app U (.node (0, 0, ByteArray.empty) .nil .nil)) = Tm.len U + 1 := by simp only [Tm.len_app, Tm.len]
  have hc : Tm.cmpI (Tm.len U) (Tm.len U + 1 : Nat) = -1 := by unfold Tm.cmpI; rw [if_pos (by omega)]
  unfold Tm.cmpT Tm.headC
  rw [hl, hc]
  rfl
theorem cmpL_more (xs : List UInt8) (y : UInt8) : Tm.cmpL xs (xs ++ [y]) = -1 := by
  induction xs with
  | nil => rfl
  | cons x xs ih =>
    rw [List.cons_append, Tm.cmpL_cons, ih, (Tm.cmpI_zero _ _).2 rfl]
    rfl
theorem long_cmp {s : ByteArray} {U V : Fo} (hl : Tm.len U = Tm.len V) (h : Tm.validB (3, 0, s) U = true) (h' : Tm.validB (3, 0, (s ++ ⟨#[97]⟩)) V = true) : Tm.cmpV (3, 0, s) U (3, 0, (s ++ ⟨#[97]⟩)) V = -1 := by
  rw [Tm.cmpV_of h h']
  have hc : Tm.cmpS s (s ++ ⟨#[97]⟩) = -1 := by
    unfold Tm.cmpS
    have : (s ++ ⟨#[97]⟩ : ByteArray).data.toList = s.data.toList ++ [97] := by simp
    rw [this]
    exact cmpL_more _ _
  have h0 : ∀ x : Int, Tm.cmpI x x = 0 := fun x => (Tm.cmpI_zero _ _).2 rfl
  unfold Tm.cmpT Tm.headC
  rw [hl]
  show Tm.lex (Tm.lex (Tm.cmpI 3 3) (Tm.lex (Tm.cmpI 0 0) (Tm.lex (Tm.cmpI (Tm.len V) (Tm.len V)) (Tm.cmpS s (s ++ ⟨#[97]⟩))))) _ = -1
  rw [h0, h0, h0, hc]
  rfl
theorem la0a_region {Q : Exit → Act → World → Prop} (p : Pay) (l : Fo) (q : Pay) (m : Fo) (s : ByteArray) (R : Fo) (z : Nat)  {w0 : World} {a : Act} {w : World} (h : Hold 83 [(0, .term p l), (1, .term q m), (2, .val (.string s)), (3, .row R), (4, .val (.int .u8 (z : Int))), (999, .tabs)] w0 a w)
    (hQ : ∀ a' w', Hold 83 [(3, .row R), (4, .val (.int .u8 (z : Int))), (5, .ptrT p l), (6, .ptrT q m), (7, .sat (varP (.string s))), (999, .tabs)] w0 a' w' → Q .normal a' w') : (Code.region 0 la0Ops false).wp Tryd.prog Q a w := by
  refine region_seq (w0 := w) 4 (by kernel_rfl) ?_
  rw [show List.range 4 = [0, 1, 2, 3] from rfl]
  refine env_one (i := 0) (d := 5) (k := .ptrT p l) (step_box (by kernel_rfl) (Opd.of_base 0 rfl) rfl) (by kernel_rfl) (by decide) h ?_
  clear h
  intro a w h
  refine env_one (i := 1) (d := 6) (k := .ptrT q m) (step_box (by kernel_rfl) (Opd.of_base 1 rfl) rfl) (by kernel_rfl) (by decide) h ?_
  clear h
  intro a w h
  refine env_one (i := 2) (d := 7) (k := .sat (varP (.string s))) (step_box_str (by kernel_rfl) (Opd.of_base 2 rfl) rfl) (by kernel_rfl) (by decide) h ?_
  clear h
  intro a w h
  refine env_one (i := 3) (d := 10) (k := .val (.bool false)) (step_assign (by kernel_rfl) (Opd.const _) rfl) (by kernel_rfl) (by decide) h ?_
  clear h
  intro a w h
  exact hQ a w (h.keep [3, 4, 5, 6, 7, 999])
theorem la7a_region {Q : Exit → Act → World → Prop} (p : Pay) (l : Fo) (q : Pay) (m : Fo) (s : ByteArray) (U V : Fo) (hv : Tm.allV (.node (3, 0, s) U (.node (3, 0, s) V .nil)) = false) {w0 : World} {a : Act} {w : World} (h : Hold 83 [(5, .ptrT p l), (6, .ptrT q m), (7, .sat (varP (.string s))), (14, .ptrT (3, 0, s) U), (15, .ptrT (3, 0, s) V), (999, .tabs)] w0 a w)
    (hQ : ∀ a' w', Hold 83 [(5, .ptrT p l), (6, .ptrT q m), (7, .sat (varP (.string s))), (14, .ptrT (3, 0, s) U), (15, .ptrT (3, 0, s) V), (42, .val (.bool true)), (999, .tabs)] w0 a' w' → Q .normal a' w') : (Code.region 7 la7Ops false).wp Tryd.prog Q a w := by
  refine region_seq (w0 := w) 5 (by kernel_rfl) ?_
  rw [show List.range 5 = [0, 1, 2, 3, 4] from rfl]
  refine env_one (i := 0) (d := 38) (k := .term (3, 0, s) U) (step_load_term (by kernel_rfl) (Opd.of_base 14 rfl) rfl) (by kernel_rfl) (by decide) h ?_
  clear h
  intro a w h
  refine env_one (i := 1) (d := 39) (k := .term (3, 0, s) V) (step_load_term (by kernel_rfl) (Opd.of_base 15 rfl) rfl) (by kernel_rfl) (by decide) h ?_
  clear h
  intro a w h
  refine env_one (i := 2) (d := 40) (k := .row (.node (3, 0, s) U (.node (3, 0, s) V .nil))) (step_slice2 (by kernel_rfl) (Opd.of_base 38 rfl) (Opd.of_base 39 rfl) rfl) (by kernel_rfl) (by decide) h ?_
  clear h
  intro a w h
  refine env_one (i := 3) (d := 41) (k := .val (.bool false)) (step_lvalid (show Tm.len (Fo.node (3, 0, s) U (.node (3, 0, s) V .nil)) ≤ 50000 by show 0 + 1 + 1 ≤ 50000; omega) (by kernel_rfl) (Opd.of_base 40 rfl) hv rfl) (by kernel_rfl) (by decide) h ?_
  clear h
  intro a w h
  refine env_one (i := 4) (d := 42) (k := .val (.bool true)) (step_not (by kernel_rfl) (Opd.of_base 41 rfl) rfl) (by kernel_rfl) (by decide) h ?_
  clear h
  intro a w h
  exact hQ a w (h.keep [5, 6, 7, 14, 15, 42, 999])
theorem la8a_region {Q : Exit → Act → World → Prop} (p : Pay) (l : Fo) (q : Pay) (m : Fo) (s : ByteArray) (U V : Fo)  {w0 : World} {a : Act} {w : World} (h : Hold 83 [(5, .ptrT p l), (6, .ptrT q m), (7, .sat (varP (.string s))), (14, .ptrT (3, 0, s) U), (15, .ptrT (3, 0, s) V), (999, .tabs)] w0 a w)
    (hQ : ∀ a' w', Hold 83 [(5, .ptrT p l), (6, .ptrT q m), (7, .sat (varP (.string s))), (14, .ptrT (3, 0, s) U), (15, .ptrT (3, 0, s) V), (10, .val (.bool true)), (999, .tabs)] w0 a' w' → Q .normal a' w') : (Code.region 8 la8Ops false).wp Tryd.prog Q a w := by
  refine region_seq (w0 := w) 2 (by kernel_rfl) ?_
  rw [show List.range 2 = [0, 1] from rfl]
  refine env_one (i := 0) (d := 43) (k := .val (.bool true)) (step_awake 999 (by kernel_rfl) (Opd.of_base 999 rfl) rfl) (by kernel_rfl) (by decide) h ?_
  clear h
  intro a w h
  refine env_one (i := 1) (d := 10) (k := .val (.bool true)) (step_assign (by kernel_rfl) (Opd.of_base 43 rfl) rfl) (by kernel_rfl) (by decide) h ?_
  clear h
  intro a w h
  exact hQ a w (h.keep [5, 6, 7, 14, 15, 10, 999])
theorem la7b_region {Q : Exit → Act → World → Prop} (p : Pay) (l : Fo) (q : Pay) (m : Fo) (s : ByteArray) (U V : Fo) (hv : Tm.allV (.node (3, 0, s) U (.node (3, 0, s) V .nil)) = true) {w0 : World} {a : Act} {w : World} (h : Hold 83 [(5, .ptrT p l), (6, .ptrT q m), (7, .sat (varP (.string s))), (14, .ptrT (3, 0, s) U), (15, .ptrT (3, 0, s) V), (999, .tabs)] w0 a w)
    (hQ : ∀ a' w', Hold 83 [(5, .ptrT p l), (6, .ptrT q m), (7, .sat (varP (.string s))), (14, .ptrT (3, 0, s) U), (15, .ptrT (3, 0, s) V), (42, .val (.bool false)), (999, .tabs)] w0 a' w' → Q .normal a' w') : (Code.region 7 la7Ops false).wp Tryd.prog Q a w := by
  refine region_seq (w0 := w) 5 (by kernel_rfl) ?_
  rw [show List.range 5 = [0, 1, 2, 3, 4] from rfl]
  refine env_one (i := 0) (d := 38) (k := .term (3, 0, s) U) (step_load_term (by kernel_rfl) (Opd.of_base 14 rfl) rfl) (by kernel_rfl) (by decide) h ?_
  clear h
  intro a w h
  refine env_one (i := 1) (d := 39) (k := .term (3, 0, s) V) (step_load_term (by kernel_rfl) (Opd.of_base 15 rfl) rfl) (by kernel_rfl) (by decide) h ?_
  clear h
  intro a w h
  refine env_one (i := 2) (d := 40) (k := .row (.node (3, 0, s) U (.node (3, 0, s) V .nil))) (step_slice2 (by kernel_rfl) (Opd.of_base 38 rfl) (Opd.of_base 39 rfl) rfl) (by kernel_rfl) (by decide) h ?_
  clear h
  intro a w h
  refine env_one (i := 3) (d := 41) (k := .val (.bool true)) (step_lvalid (show Tm.len (Fo.node (3, 0, s) U (.node (3, 0, s) V .nil)) ≤ 50000 by show 0 + 1 + 1 ≤ 50000; omega) (by kernel_rfl) (Opd.of_base 40 rfl) hv rfl) (by kernel_rfl) (by decide) h ?_
  clear h
  intro a w h
  refine env_one (i := 4) (d := 42) (k := .val (.bool false)) (step_not (by kernel_rfl) (Opd.of_base 41 rfl) rfl) (by kernel_rfl) (by decide) h ?_
  clear h
  intro a w h
  exact hQ a w (h.keep [5, 6, 7, 14, 15, 42, 999])
def la9aEs (p : Pay) (l : Fo) (q : Pay) (m : Fo) (s : ByteArray) (U V : Fo) : List Kd := [
  .term (3, 0, s) U,
  .term (3, 0, s) V,
  .val (.int .i64 (Tm.cmpV (3, 0, s) U (3, 0, s) V)),
  .term p l,
  .term q m,
  .val (.int .i64 (Tm.cmpV p l q m)),
  .val (.bool false)]
def la9aDs : List Nat := [44, 45, 46, 47, 48, 49, 50]
def la9aEnv (p : Pay) (l : Fo) (q : Pay) (m : Fo) (s : ByteArray) (U V : Fo) : Env := [(5, .ptrT p l), (6, .ptrT q m), (7, .sat (varP (.string s))), (14, .ptrT (3, 0, s) U), (15, .ptrT (3, 0, s) V), (999, .tabs)]
theorem la9a_0 {Q : Exit → Act → World → Prop} (p : Pay) (l : Fo) (q : Pay) (m : Fo) (s : ByteArray) (U V : Fo) (hcc : Tm.cmpV (3, 0, s) U (3, 0, s) V = Tm.cmpV p l q m) : RStep (strip la9Ops) Q (fun i => ((la9aEs p l q m s U V)[i]?).getD .any) (fun i => (la9aDs[i]?).getD (1000 + i)) (look (la9aEnv p l q m s U V)) 83 0 := fun _ => step_load_term (by kernel_rfl) (Opd.of_base 14 rfl) rfl
theorem la9a_1 {Q : Exit → Act → World → Prop} (p : Pay) (l : Fo) (q : Pay) (m : Fo) (s : ByteArray) (U V : Fo) (hcc : Tm.cmpV (3, 0, s) U (3, 0, s) V = Tm.cmpV p l q m) : RStep (strip la9Ops) Q (fun i => ((la9aEs p l q m s U V)[i]?).getD .any) (fun i => (la9aDs[i]?).getD (1000 + i)) (look (la9aEnv p l q m s U V)) 83 1 := fun _ => step_load_term (by kernel_rfl) (Opd.of_base 15 rfl) rfl
theorem la9a_2 {Q : Exit → Act → World → Prop} (p : Pay) (l : Fo) (q : Pay) (m : Fo) (s : ByteArray) (U V : Fo) (hcc : Tm.cmpV (3, 0, s) U (3, 0, s) V = Tm.cmpV p l q m) : RStep (strip la9Ops) Q (fun i => ((la9aEs p l q m s U V)[i]?).getD .any) (fun i => (la9aDs[i]?).getD (1000 + i)) (look (la9aEnv p l q m s U V)) 83 2 := fun _ => step_ocmp 999 (by kernel_rfl) (Opd.dep 0 rfl rfl (by kernel_rfl)) (Opd.dep 1 rfl rfl (by kernel_rfl)) (Opd.of_base 999 rfl) rfl
theorem la9a_3 {Q : Exit → Act → World → Prop} (p : Pay) (l : Fo) (q : Pay) (m : Fo) (s : ByteArray) (U V : Fo) (hcc : Tm.cmpV (3, 0, s) U (3, 0, s) V = Tm.cmpV p l q m) : RStep (strip la9Ops) Q (fun i => ((la9aEs p l q m s U V)[i]?).getD .any) (fun i => (la9aDs[i]?).getD (1000 + i)) (look (la9aEnv p l q m s U V)) 83 3 := fun _ => step_load_term (by kernel_rfl) (Opd.of_base 5 rfl) rfl
theorem la9a_4 {Q : Exit → Act → World → Prop} (p : Pay) (l : Fo) (q : Pay) (m : Fo) (s : ByteArray) (U V : Fo) (hcc : Tm.cmpV (3, 0, s) U (3, 0, s) V = Tm.cmpV p l q m) : RStep (strip la9Ops) Q (fun i => ((la9aEs p l q m s U V)[i]?).getD .any) (fun i => (la9aDs[i]?).getD (1000 + i)) (look (la9aEnv p l q m s U V)) 83 4 := fun _ => step_load_term (by kernel_rfl) (Opd.of_base 6 rfl) rfl
theorem la9a_5 {Q : Exit → Act → World → Prop} (p : Pay) (l : Fo) (q : Pay) (m : Fo) (s : ByteArray) (U V : Fo) (hcc : Tm.cmpV (3, 0, s) U (3, 0, s) V = Tm.cmpV p l q m) : RStep (strip la9Ops) Q (fun i => ((la9aEs p l q m s U V)[i]?).getD .any) (fun i => (la9aDs[i]?).getD (1000 + i)) (look (la9aEnv p l q m s U V)) 83 5 := fun _ => step_ocmp 999 (by kernel_rfl) (Opd.dep 3 rfl rfl (by kernel_rfl)) (Opd.dep 4 rfl rfl (by kernel_rfl)) (Opd.of_base 999 rfl) rfl
theorem la9a_6 {Q : Exit → Act → World → Prop} (p : Pay) (l : Fo) (q : Pay) (m : Fo) (s : ByteArray) (U V : Fo) (hcc : Tm.cmpV (3, 0, s) U (3, 0, s) V = Tm.cmpV p l q m) : RStep (strip la9Ops) Q (fun i => ((la9aEs p l q m s U V)[i]?).getD .any) (fun i => (la9aDs[i]?).getD (1000 + i)) (look (la9aEnv p l q m s U V)) 83 6 := fun _ => step_ne_int (m := (Tm.cmpV (3, 0, s) U (3, 0, s) V)) (n := (Tm.cmpV p l q m)) (by kernel_rfl) (Opd.dep 2 rfl rfl (by kernel_rfl)) (Opd.dep 5 rfl rfl (by kernel_rfl)) (by rw [hcc]; simp) rfl
theorem la9a_region {Q : Exit → Act → World → Prop} (p : Pay) (l : Fo) (q : Pay) (m : Fo) (s : ByteArray) (U V : Fo) (hcc : Tm.cmpV (3, 0, s) U (3, 0, s) V = Tm.cmpV p l q m) {w0 : World} {a : Act} {w : World} (h : Hold 83 [(5, .ptrT p l), (6, .ptrT q m), (7, .sat (varP (.string s))), (14, .ptrT (3, 0, s) U), (15, .ptrT (3, 0, s) V), (999, .tabs)] w0 a w)
    (hQ : ∀ a' w', Hold 83 [(7, .sat (varP (.string s))), (14, .ptrT (3, 0, s) U), (15, .ptrT (3, 0, s) V), (50, .val (.bool false)), (999, .tabs)] w0 a' w' → Q .normal a' w') : (Code.region 9 la9Ops true).wp Tryd.prog Q a w := by
  have hall : ∀ i, i < 0 → RStep (strip la9Ops) Q (fun i => ((la9aEs p l q m s U V)[i]?).getD .any) (fun i => (la9aDs[i]?).getD (1000 + i)) (look (la9aEnv p l q m s U V)) 83 i := fun i hi => absurd hi (by omega)
  have hall := below_succ hall (la9a_0 p l q m s U V hcc)
  have hall := below_succ hall (la9a_1 p l q m s U V hcc)
  have hall := below_succ hall (la9a_2 p l q m s U V hcc)
  have hall := below_succ hall (la9a_3 p l q m s U V hcc)
  have hall := below_succ hall (la9a_4 p l q m s U V hcc)
  have hall := below_succ hall (la9a_5 p l q m s U V hcc)
  have hall := below_succ hall (la9a_6 p l q m s U V hcc)
  refine env_any4 (env := la9aEnv p l q m s U V) (N := 83) (w0 := w0) la9aDs (la9aEs p l q m s U V) (by kernel_rfl) (by kernel_rfl) (of_decide_eq_true (by kernel_rfl)) (fun i_ hi_ => hall i_ (by rw [show (la9aEs p l q m s U V).length = 7 by kernel_rfl] at hi_; exact hi_)) h fun a' w' h => ?_
  exact hQ a' w' (h.keep [7, 14, 15, 50, 999])
theorem la12a_region {Q : Exit → Act → World → Prop} (p : Pay) (l : Fo) (q : Pay) (m : Fo) (s : ByteArray) (U V : Fo) (hvm : Tm.validB (3, 0, ⟨#[]⟩) (Tm.app U (.node (0, 0, ByteArray.empty) .nil .nil)) = false) {w0 : World} {a : Act} {w : World} (h : Hold 83 [(16, .ptrT (3, 0, ⟨#[]⟩) (Tm.app U (.node (0, 0, ByteArray.empty) .nil .nil))), (7, .sat (varP (.string s))), (14, .ptrT (3, 0, s) U), (15, .ptrT (3, 0, s) V), (999, .tabs)] w0 a w)
    (hQ : ∀ a' w', Hold 83 [(7, .sat (varP (.string s))), (14, .ptrT (3, 0, s) U), (15, .ptrT (3, 0, s) V), (65, .val (.bool false)), (999, .tabs)] w0 a' w' → Q .normal a' w') : (Code.region 12 la12Ops false).wp Tryd.prog Q a w := by
  refine region_seq (w0 := w) 8 (by kernel_rfl) ?_
  rw [show List.range 8 = [0, 1, 2, 3, 4, 5, 6, 7] from rfl]
  refine env_one (i := 0) (d := 58) (k := .term (3, 0, ⟨#[]⟩) (Tm.app U (.node (0, 0, ByteArray.empty) .nil .nil))) (step_load_term (by kernel_rfl) (Opd.of_base 16 rfl) rfl) (by kernel_rfl) (by decide) h ?_
  clear h
  intro a w h
  refine env_one (i := 1) (d := 59) (k := .val (.bool false)) (step_rvalid (by kernel_rfl) (Opd.of_base 58 rfl) hvm rfl) (by kernel_rfl) (by decide) h ?_
  clear h
  intro a w h
  refine env_one (i := 2) (d := 60) (k := .val (.bool false)) (step_move (by kernel_rfl) (Opd.of_base 59 rfl) rfl) (by kernel_rfl) (by decide) h ?_
  clear h
  intro a w h
  refine env_skip (i := 3) (d := 61) (g := 2) (dg := 60) (b := true) (by kernel_rfl) (by decide) (by kernel_rfl) rfl rfl h ?_
  clear h
  intro a w h
  refine env_skip (i := 4) (d := 62) (g := 2) (dg := 60) (b := true) (by kernel_rfl) (by decide) (by kernel_rfl) rfl rfl h ?_
  clear h
  intro a w h
  refine env_skip (i := 5) (d := 63) (g := 2) (dg := 60) (b := true) (by kernel_rfl) (by decide) (by kernel_rfl) rfl rfl h ?_
  clear h
  intro a w h
  refine env_skip (i := 6) (d := 64) (g := 2) (dg := 60) (b := true) (by kernel_rfl) (by decide) (by kernel_rfl) rfl rfl h ?_
  clear h
  intro a w h
  refine env_one (i := 7) (d := 65) (k := .val (.bool false)) (step_pick_no (x := .tmp 64) (by kernel_rfl) (Opd.of_base 60 rfl) (Opd.const _) rfl) (by kernel_rfl) (by decide) h ?_
  clear h
  intro a w h
  exact hQ a w (h.keep [7, 14, 15, 65, 999])
theorem la14a_region {Q : Exit → Act → World → Prop} (p : Pay) (l : Fo) (q : Pay) (m : Fo) (s : ByteArray) (U V : Fo) (hsz : s.size ≤ 4611686018427387904) {w0 : World} {a : Act} {w : World} (h : Hold 83 [(7, .sat (varP (.string s))), (14, .ptrT (3, 0, s) U), (15, .ptrT (3, 0, s) V), (999, .tabs)] w0 a w)
    (hQ : ∀ a' w', Hold 83 [(14, .ptrT (3, 0, s) U), (17, .ptrT (3, 0, (s ++ ⟨#[97]⟩)) V), (999, .tabs)] w0 a' w' → Q .normal a' w') : (Code.region 14 la14Ops false).wp Tryd.prog Q a w := by
  refine region_seq (w0 := w) 7 (by kernel_rfl) ?_
  rw [show List.range 7 = [0, 1, 2, 3, 4, 5, 6] from rfl]
  refine env_one (i := 0) (d := 66) (k := .val (.string s)) (step_load_string (by kernel_rfl) (Opd.varS (Opd.of_base 7 rfl)) rfl) (by kernel_rfl) (by decide) h ?_
  clear h
  intro a w h
  refine env_one (i := 1) (d := 67) (k := .val (.string (s ++ ⟨#[97]⟩))) (step_concat (by have : (⟨#[97]⟩ : ByteArray).size = 1 := rfl; omega) (by kernel_rfl) (Opd.of_base 66 rfl) (Opd.const _) rfl) (by kernel_rfl) (by decide) h ?_
  clear h
  intro a w h
  refine env_one (i := 2) (d := 68) (k := .ptrR V) (step_field3 (by kernel_rfl) (Opd.of_base 15 rfl) rfl) (by kernel_rfl) (by decide) h ?_
  clear h
  intro a w h
  refine env_one (i := 3) (d := 69) (k := .row V) (step_load_row (by kernel_rfl) (Opd.of_base 68 rfl) rfl) (by kernel_rfl) (by decide) h ?_
  clear h
  intro a w h
  refine env_one (i := 4) (d := 70) (k := .term (3, 0, (s ++ ⟨#[97]⟩)) V) (step_build3 (by kernel_rfl) (Opd.of_base 67 rfl) (Opd.of_base 69 rfl) rfl) (by kernel_rfl) (by decide) h ?_
  clear h
  intro a w h
  refine env_box (i := 5) (d := 17) (by kernel_rfl) (by decide) (by kernel_rfl) (by decide) (s := 70) rfl h ?_
  clear h
  intro a w h
  exact hQ a w (h.keep [14, 17, 999])
theorem la15a_region {Q : Exit → Act → World → Prop} (p : Pay) (l : Fo) (q : Pay) (m : Fo) (s : ByteArray) (U V : Fo) (hvl : Tm.validB (3, 0, (s ++ ⟨#[97]⟩)) V = false) {w0 : World} {a : Act} {w : World} (h : Hold 83 [(14, .ptrT (3, 0, s) U), (17, .ptrT (3, 0, (s ++ ⟨#[97]⟩)) V), (999, .tabs)] w0 a w)
    (hQ : ∀ a' w', Hold 83 [(10, .val (.bool true)), (999, .tabs)] w0 a' w' → Q .normal a' w') : (Code.region 15 la15Ops false).wp Tryd.prog Q a w := by
  refine region_seq (w0 := w) 13 (by kernel_rfl) ?_
  rw [show List.range 13 = [0, 1, 2, 3, 4, 5, 6, 7, 8, 9, 10, 11, 12] from rfl]
  refine env_one (i := 0) (d := 71) (k := .term (3, 0, (s ++ ⟨#[97]⟩)) V) (step_load_term (by kernel_rfl) (Opd.of_base 17 rfl) rfl) (by kernel_rfl) (by decide) h ?_
  clear h
  intro a w h
  refine env_one (i := 1) (d := 72) (k := .val (.bool false)) (step_rvalid (by kernel_rfl) (Opd.of_base 71 rfl) hvl rfl) (by kernel_rfl) (by decide) h ?_
  clear h
  intro a w h
  refine env_one (i := 2) (d := 73) (k := .val (.bool true)) (step_not (by kernel_rfl) (Opd.of_base 72 rfl) rfl) (by kernel_rfl) (by decide) h ?_
  clear h
  intro a w h
  refine env_one (i := 3) (d := 74) (k := .val (.bool true)) (step_move (by kernel_rfl) (Opd.of_base 73 rfl) rfl) (by kernel_rfl) (by decide) h ?_
  clear h
  intro a w h
  refine env_skip (i := 4) (d := 75) (g := 3) (dg := 74) (b := false) (by kernel_rfl) (by decide) (by kernel_rfl) rfl rfl h ?_
  clear h
  intro a w h
  refine env_skip (i := 5) (d := 76) (g := 3) (dg := 74) (b := false) (by kernel_rfl) (by decide) (by kernel_rfl) rfl rfl h ?_
  clear h
  intro a w h
  refine env_skip (i := 6) (d := 77) (g := 3) (dg := 74) (b := false) (by kernel_rfl) (by decide) (by kernel_rfl) rfl rfl h ?_
  clear h
  intro a w h
  refine env_skip (i := 7) (d := 78) (g := 3) (dg := 74) (b := false) (by kernel_rfl) (by decide) (by kernel_rfl) rfl rfl h ?_
  clear h
  intro a w h
  refine env_one (i := 8) (d := 79) (k := .val (.bool true)) (step_pick_yes (y := .tmp 78) (by kernel_rfl) (Opd.of_base 74 rfl) (Opd.const _) rfl) (by kernel_rfl) (by decide) h ?_
  clear h
  intro a w h
  refine env_one (i := 9) (d := 80) (k := .val (.bool true)) (step_move (by kernel_rfl) (Opd.of_base 79 rfl) rfl) (by kernel_rfl) (by decide) h ?_
  clear h
  intro a w h
  refine env_guard (i := 10) (d := 81) (g := 9) (dg := 80) (b := true) (k := .val (.bool true)) (step_awake 999 (by kernel_rfl) (Opd.of_base 999 rfl) rfl) (by kernel_rfl) (by decide) (by kernel_rfl) (by decide) rfl h ?_
  clear h
  intro a w h
  refine env_one (i := 11) (d := 82) (k := .val (.bool true)) (step_pick_yes (y := .const (.bool false)) (by kernel_rfl) (Opd.of_base 80 rfl) (Opd.of_base 81 rfl) rfl) (by kernel_rfl) (by decide) h ?_
  clear h
  intro a w h
  refine env_one (i := 12) (d := 10) (k := .val (.bool true)) (step_assign (by kernel_rfl) (Opd.of_base 82 rfl) rfl) (by kernel_rfl) (by decide) h ?_
  clear h
  intro a w h
  exact hQ a w (h.keep [10, 999])
theorem la15b_region {Q : Exit → Act → World → Prop} (p : Pay) (l : Fo) (q : Pay) (m : Fo) (s : ByteArray) (U V : Fo) (hvl : Tm.validB (3, 0, (s ++ ⟨#[97]⟩)) V = true) (hlo : Tm.cmpV (3, 0, s) U (3, 0, (s ++ ⟨#[97]⟩)) V = -1) {w0 : World} {a : Act} {w : World} (h : Hold 83 [(14, .ptrT (3, 0, s) U), (17, .ptrT (3, 0, (s ++ ⟨#[97]⟩)) V), (999, .tabs)] w0 a w)
    (hQ : ∀ a' w', Hold 83 [(10, .val (.bool true)), (999, .tabs)] w0 a' w' → Q .normal a' w') : (Code.region 15 la15Ops false).wp Tryd.prog Q a w := by
  refine region_seq (w0 := w) 13 (by kernel_rfl) ?_
  rw [show List.range 13 = [0, 1, 2, 3, 4, 5, 6, 7, 8, 9, 10, 11, 12] from rfl]
  refine env_one (i := 0) (d := 71) (k := .term (3, 0, (s ++ ⟨#[97]⟩)) V) (step_load_term (by kernel_rfl) (Opd.of_base 17 rfl) rfl) (by kernel_rfl) (by decide) h ?_
  clear h
  intro a w h
  refine env_one (i := 1) (d := 72) (k := .val (.bool true)) (step_rvalid (by kernel_rfl) (Opd.of_base 71 rfl) hvl rfl) (by kernel_rfl) (by decide) h ?_
  clear h
  intro a w h
  refine env_one (i := 2) (d := 73) (k := .val (.bool false)) (step_not (by kernel_rfl) (Opd.of_base 72 rfl) rfl) (by kernel_rfl) (by decide) h ?_
  clear h
  intro a w h
  refine env_one (i := 3) (d := 74) (k := .val (.bool false)) (step_move (by kernel_rfl) (Opd.of_base 73 rfl) rfl) (by kernel_rfl) (by decide) h ?_
  clear h
  intro a w h
  refine env_guard (i := 4) (d := 75) (g := 3) (dg := 74) (b := false) (k := .term (3, 0, s) U) (step_load_term (by kernel_rfl) (Opd.of_base 14 rfl) rfl) (by kernel_rfl) (by decide) (by kernel_rfl) (by decide) rfl h ?_
  clear h
  intro a w h
  refine env_guard (i := 5) (d := 76) (g := 3) (dg := 74) (b := false) (k := .term (3, 0, (s ++ ⟨#[97]⟩)) V) (step_load_term (by kernel_rfl) (Opd.of_base 17 rfl) rfl) (by kernel_rfl) (by decide) (by kernel_rfl) (by decide) rfl h ?_
  clear h
  intro a w h
  refine env_guard (i := 6) (d := 77) (g := 3) (dg := 74) (b := false) (k := .val (.int .i64 (Tm.cmpV (3, 0, s) U (3, 0, (s ++ ⟨#[97]⟩)) V))) (step_ocmp 999 (by kernel_rfl) (Opd.of_base 75 rfl) (Opd.of_base 76 rfl) (Opd.of_base 999 rfl) rfl) (by kernel_rfl) (by decide) (by kernel_rfl) (by decide) rfl h ?_
  clear h
  intro a w h
  refine env_guard (i := 7) (d := 78) (g := 3) (dg := 74) (b := false) (k := .val (.bool true)) (step_eqb_int (m := (Tm.cmpV (3, 0, s) U (3, 0, (s ++ ⟨#[97]⟩)) V)) (n := (-1)) (by kernel_rfl) (Opd.of_base 77 rfl) (Opd.const _) (by rw [hlo]; rfl) rfl) (by kernel_rfl) (by decide) (by kernel_rfl) (by decide) rfl h ?_
  clear h
  intro a w h
  refine env_one (i := 8) (d := 79) (k := .val (.bool true)) (step_pick_no (x := .const (.bool true)) (by kernel_rfl) (Opd.of_base 74 rfl) (Opd.of_base 78 rfl) rfl) (by kernel_rfl) (by decide) h ?_
  clear h
  intro a w h
  refine env_one (i := 9) (d := 80) (k := .val (.bool true)) (step_move (by kernel_rfl) (Opd.of_base 79 rfl) rfl) (by kernel_rfl) (by decide) h ?_
  clear h
  intro a w h
  refine env_guard (i := 10) (d := 81) (g := 9) (dg := 80) (b := true) (k := .val (.bool true)) (step_awake 999 (by kernel_rfl) (Opd.of_base 999 rfl) rfl) (by kernel_rfl) (by decide) (by kernel_rfl) (by decide) rfl h ?_
  clear h
  intro a w h
  refine env_one (i := 11) (d := 82) (k := .val (.bool true)) (step_pick_yes (y := .const (.bool false)) (by kernel_rfl) (Opd.of_base 80 rfl) (Opd.of_base 81 rfl) rfl) (by kernel_rfl) (by decide) h ?_
  clear h
  intro a w h
  refine env_one (i := 12) (d := 10) (k := .val (.bool true)) (step_assign (by kernel_rfl) (Opd.of_base 82 rfl) rfl) (by kernel_rfl) (by decide) h ?_
  clear h
  intro a w h
  exact hQ a w (h.keep [10, 999])
theorem la12b_region {Q : Exit → Act → World → Prop} (p : Pay) (l : Fo) (q : Pay) (m : Fo) (s : ByteArray) (U V : Fo) (hvm : Tm.validB (3, 0, ⟨#[]⟩) (Tm.app U (.node (0, 0, ByteArray.empty) .nil .nil)) = true) (hmo : Tm.cmpV (3, 0, s) U (3, 0, ⟨#[]⟩) (Tm.app U (.node (0, 0, ByteArray.empty) .nil .nil)) = -1) {w0 : World} {a : Act} {w : World} (h : Hold 83 [(16, .ptrT (3, 0, ⟨#[]⟩) (Tm.app U (.node (0, 0, ByteArray.empty) .nil .nil))), (7, .sat (varP (.string s))), (14, .ptrT (3, 0, s) U), (15, .ptrT (3, 0, s) V), (999, .tabs)] w0 a w)
    (hQ : ∀ a' w', Hold 83 [(7, .sat (varP (.string s))), (14, .ptrT (3, 0, s) U), (15, .ptrT (3, 0, s) V), (65, .val (.bool false)), (999, .tabs)] w0 a' w' → Q .normal a' w') : (Code.region 12 la12Ops false).wp Tryd.prog Q a w := by
  refine region_seq (w0 := w) 8 (by kernel_rfl) ?_
  rw [show List.range 8 = [0, 1, 2, 3, 4, 5, 6, 7] from rfl]
  refine env_one (i := 0) (d := 58) (k := .term (3, 0, ⟨#[]⟩) (Tm.app U (.node (0, 0, ByteArray.empty) .nil .nil))) (step_load_term (by kernel_rfl) (Opd.of_base 16 rfl) rfl) (by kernel_rfl) (by decide) h ?_
  clear h
  intro a w h
  refine env_one (i := 1) (d := 59) (k := .val (.bool true)) (step_rvalid (by kernel_rfl) (Opd.of_base 58 rfl) hvm rfl) (by kernel_rfl) (by decide) h ?_
  clear h
  intro a w h
  refine env_one (i := 2) (d := 60) (k := .val (.bool true)) (step_move (by kernel_rfl) (Opd.of_base 59 rfl) rfl) (by kernel_rfl) (by decide) h ?_
  clear h
  intro a w h
  refine env_guard (i := 3) (d := 61) (g := 2) (dg := 60) (b := true) (k := .term (3, 0, s) U) (step_load_term (by kernel_rfl) (Opd.of_base 14 rfl) rfl) (by kernel_rfl) (by decide) (by kernel_rfl) (by decide) rfl h ?_
  clear h
  intro a w h
  refine env_guard (i := 4) (d := 62) (g := 2) (dg := 60) (b := true) (k := .term (3, 0, ⟨#[]⟩) (Tm.app U (.node (0, 0, ByteArray.empty) .nil .nil))) (step_load_term (by kernel_rfl) (Opd.of_base 16 rfl) rfl) (by kernel_rfl) (by decide) (by kernel_rfl) (by decide) rfl h ?_
  clear h
  intro a w h
  refine env_guard (i := 5) (d := 63) (g := 2) (dg := 60) (b := true) (k := .val (.int .i64 (Tm.cmpV (3, 0, s) U (3, 0, ⟨#[]⟩) (Tm.app U (.node (0, 0, ByteArray.empty) .nil .nil))))) (step_ocmp 999 (by kernel_rfl) (Opd.of_base 61 rfl) (Opd.of_base 62 rfl) (Opd.of_base 999 rfl) rfl) (by kernel_rfl) (by decide) (by kernel_rfl) (by decide) rfl h ?_
  clear h
  intro a w h
  refine env_guard (i := 6) (d := 64) (g := 2) (dg := 60) (b := true) (k := .val (.bool false)) (step_ne_int (m := (Tm.cmpV (3, 0, s) U (3, 0, ⟨#[]⟩) (Tm.app U (.node (0, 0, ByteArray.empty) .nil .nil)))) (n := (-1)) (by kernel_rfl) (Opd.of_base 63 rfl) (Opd.const _) (by rw [hmo]; rfl) rfl) (by kernel_rfl) (by decide) (by kernel_rfl) (by decide) rfl h ?_
  clear h
  intro a w h
  refine env_one (i := 7) (d := 65) (k := .val (.bool false)) (step_pick_yes (y := .const (.bool false)) (by kernel_rfl) (Opd.of_base 60 rfl) (Opd.of_base 64 rfl) rfl) (by kernel_rfl) (by decide) h ?_
  clear h
  intro a w h
  exact hQ a w (h.keep [7, 14, 15, 65, 999])
theorem law_arguments0 (p : Pay) (l : Fo) (q : Pay) (m : Fo) (s : ByteArray) (R : Fo) (z : Nat) (A0 A1 A3 : Option Addr) (c0 c1 c3 : Nat) (w : World) (hA0 : ArgsB w w.heap.size A0 (Tm.len l) l) (hA1 : ArgsB w w.heap.size A1 (Tm.len m) m) (hsz : s.size ≤ 4611686018427387904) (hA3 : ArgsB w w.heap.size A3 (Tm.len R) R) (hz : z < 256) (hT : Tabs w) :
    Calls Tryd.prog 7 #[tv p A0 (Tm.len l) c0, tv q A1 (Tm.len m) c1, .string s, .slice A3 (Tm.len R) c3, .int .u8 (z : Int)] w fun e w' => e = .returned (.bool true) ∧ Below w.heap.size w w' := by
  refine calls_of_wp Tryd.func7 la_body ?_
  obtain ⟨v0, hv0⟩ : ∃ v : Value, v = tv p A0 (Tm.len l) c0 := ⟨_, rfl⟩
  obtain ⟨v1, hv1⟩ : ∃ v : Value, v = tv q A1 (Tm.len m) c1 := ⟨_, rfl⟩
  obtain ⟨v2, hv2⟩ : ∃ v : Value, v = .string s := ⟨_, rfl⟩
  obtain ⟨v3, hv3⟩ : ∃ v : Value, v = .slice A3 (Tm.len R) c3 := ⟨_, rfl⟩
  obtain ⟨v4, hv4⟩ : ∃ v : Value, v = .int .u8 (z : Int) := ⟨_, rfl⟩
  rw [← hv0, ← hv1, ← hv2, ← hv3, ← hv4]
  have hk0 : (Kd.term p l).R v0 w := ⟨A0, c0, hv0, hA0⟩
  have hk1 : (Kd.term q m).R v1 w := ⟨A1, c1, hv1, hA1⟩
  have hk2 : (Kd.val (.string s)).R v2 w := hv2
  have hk3 : (Kd.row R).R v3 w := ⟨A3, c3, hv3, hA3⟩
  have hk4 : (Kd.val (.int .u8 (z : Int))).R v4 w := hv4
  have hsN : (#[v0, v1, v2, v3, v4] ++ Array.replicate (Tryd.f7.ntmps - #[v0, v1, v2, v3, v4].size) undef : Array Value).size = 83 := by kernel_rfl
  have gs0 : (#[v0, v1, v2, v3, v4] ++ Array.replicate (Tryd.f7.ntmps - #[v0, v1, v2, v3, v4].size) undef : Array Value).getD 0 undef = v0 := by kernel_rfl
  have gs1 : (#[v0, v1, v2, v3, v4] ++ Array.replicate (Tryd.f7.ntmps - #[v0, v1, v2, v3, v4].size) undef : Array Value).getD 1 undef = v1 := by kernel_rfl
  have gs2 : (#[v0, v1, v2, v3, v4] ++ Array.replicate (Tryd.f7.ntmps - #[v0, v1, v2, v3, v4].size) undef : Array Value).getD 2 undef = v2 := by kernel_rfl
  have gs3 : (#[v0, v1, v2, v3, v4] ++ Array.replicate (Tryd.f7.ntmps - #[v0, v1, v2, v3, v4].size) undef : Array Value).getD 3 undef = v3 := by kernel_rfl
  have gs4 : (#[v0, v1, v2, v3, v4] ++ Array.replicate (Tryd.f7.ntmps - #[v0, v1, v2, v3, v4].size) undef : Array Value).getD 4 undef = v4 := by kernel_rfl
  generalize (#[v0, v1, v2, v3, v4] ++ Array.replicate (Tryd.f7.ntmps - #[v0, v1, v2, v3, v4].size) undef : Array Value) = tm at hsN gs0 gs1 gs2 gs3 gs4 ⊢
  refine wp_seq ?_
  refine la0a_region p l q m s R z  (w0 := w) ⟨hsN, rfl, Below.refl _ _, (slots_cons 0 (by rw [gs0]; exact hk0) (slots_cons 1 (by rw [gs1]; exact hk1) (slots_cons 2 (by rw [gs2]; exact hk2) (slots_cons 3 (by rw [gs3]; exact hk3) (slots_cons 4 (by rw [gs4]; exact hk4) (slots_cons 999 (k0 := .tabs) hT slots_nil))))))⟩ ?_
  intro a w1 h
  show Code.wp _ _ _ a w1
  have hb0 := h.world
  obtain ⟨wz, rfl⟩ : ∃ wz : World, wz = w1 := ⟨_, rfl⟩
  have h1 := h.keep [5, 6, 7, 3, 4, 999]
  refine wp_seq ?_
  refine la1_step p l q m s z R wz ⟨h1.size, h1.defers, Below.refl _ _, h1.slots⟩ fun A c pl a w1 h lc => ?_
  show Code.wp _ _ _ a w1
  refine wp_seq ?_
  refine la23_step p l q m s z wz (Tm.takeF R 40) pl A c h lc fun n c a w1 hn7 hnL h lc => ?_
  show Code.wp _ _ _ a w1
  obtain ⟨L7, hL7⟩ : ∃ L, L = Tm.takeF (Tm.takeF R 40) 7 := ⟨_, rfl⟩
  rw [← hL7] at hnL lc
  refine wp_seq ?_
  refine la4_step p l q m s z wz L7 pl n c A hz hn7 h lc fun pi a w1 h lc h12 hpi => ?_
  show Code.wp _ _ _ a w1
  refine wp_seq ?_
  refine la5_step p l q m s z wz L7 pl pi n c A _ h lc h12 hpi fun pn a w1 h lc hpi hpn hcn h13 => ?_
  show Code.wp _ _ _ a w1
  obtain ⟨i, hi0⟩ : ∃ i, i = z % (n + 1) := ⟨_, rfl⟩
  rw [← hi0] at hpi
  have hi : i ≤ n := by rw [hi0]; have := Nat.mod_lt z (show 0 < n + 1 by omega); omega
  refine wp_seq ?_
  refine la6_region p l q m s z wz L7 i n pl pi pn c A h lc hpi hpn hcn h13 hi hn7 fun a w1 h => ?_
  show Code.wp _ _ _ a w1
  obtain ⟨U, hU⟩ : ∃ U, U = (Tm.app (Tm.app (Tm.takeF L7 i) (.node p l .nil)) (Tm.dropF L7 i)) := ⟨_, rfl⟩
  obtain ⟨V, hV⟩ : ∃ V, V = (Tm.app (Tm.app (Tm.takeF L7 i) (.node q m .nil)) (Tm.dropF L7 i)) := ⟨_, rfl⟩
  rw [← hU, ← hV] at h
  have hUn : Tm.len U ≤ 50000 := by rw [hU, uu_len L7 i n p l hi hnL.symm]; omega
  refine wp_seq ?_
  refine wp_seq ?_
  cases hv : Tm.allV (.node (3, 0, s) U (.node (3, 0, s) V .nil))
  · refine la7a_region p l q m s U V hv h ?_
    intro a w1 h
    show Code.wp _ _ _ a w1
    refine env_cond (b := true) rfl h ?_
    have h := h.keep [5, 6, 7, 14, 15, 999]
    show Code.wp _ _ _ a w1
    refine wp_seq ?_
    refine la8a_region p l q m s U V  h ?_
    intro a w1 h
    show Code.wp _ _ _ a w1
    refine wp_ret ?_
    (try simp only [then_ret, block_ret])
    refine law_out rfl (h.get 10 rfl) h.defers ⟨rfl, hb0.trans (h.world.mono hb0.size)⟩
  · refine la7b_region p l q m s U V hv h ?_
    intro a w1 h
    obtain ⟨hvu, hvv⟩ := two_valid hv
    have hcc := args_cmp (L := L7) (i := i) (p := p) (l := l) (q := q) (m := m) (s := s) (by rw [← hU]; exact hvu) (by rw [← hV]; exact hvv)
    rw [← hU, ← hV] at hcc
    show Code.wp _ _ _ a w1
    refine env_cond (b := false) rfl h ?_
    refine wp_skip ?_
    have h := h.keep [5, 6, 7, 14, 15, 999]
    show Code.wp _ _ _ a w1
    refine wp_seq ?_
    refine wp_seq ?_
    refine la9a_region p l q m s U V hcc h ?_
    intro a w1 h
    show Code.wp _ _ _ a w1
    refine env_cond (b := false) rfl h ?_
    refine wp_skip ?_
    have h := h.keep [7, 14, 15, 999]
    show Code.wp _ _ _ a w1
    refine wp_seq ?_
    refine la11_region s U V hUn (h.keep [7, 14, 15, 999]) ?_
    intro a w1 h
    show Code.wp _ _ _ a w1
    refine wp_seq ?_
    refine wp_seq ?_
    cases hvm : Tm.validB (3, 0, ⟨#[]⟩) (Tm.app U (.node (0, 0, ByteArray.empty) .nil .nil))
    · refine la12a_region p l q m s U V hvm h ?_
      intro a w1 h
      show Code.wp _ _ _ a w1
      refine env_cond (b := false) rfl h ?_
      refine wp_skip ?_
      have h := h.keep [7, 14, 15, 999]
      show Code.wp _ _ _ a w1
      refine wp_seq ?_
      refine la14a_region p l q m s U V hsz h ?_
      intro a w1 h
      show Code.wp _ _ _ a w1
      refine wp_seq ?_
      cases hvl : Tm.validB (3, 0, (s ++ ⟨#[97]⟩)) V
      · refine la15a_region p l q m s U V hvl h ?_
        intro a w1 h
        show Code.wp _ _ _ a w1
        refine wp_ret ?_
        (try simp only [then_ret, block_ret])
        refine law_out rfl (h.get 10 rfl) h.defers ⟨rfl, hb0.trans (h.world.mono hb0.size)⟩
      · have hlo := long_cmp (by rw [hU, hV, uu_len L7 i n p l hi hnL.symm, uu_len L7 i n q m hi hnL.symm]) hvu hvl
        refine la15b_region p l q m s U V hvl hlo h ?_
        intro a w1 h
        show Code.wp _ _ _ a w1
        refine wp_ret ?_
        (try simp only [then_ret, block_ret])
        refine law_out rfl (h.get 10 rfl) h.defers ⟨rfl, hb0.trans (h.world.mono hb0.size)⟩
    · have hmo := more_cmp hvu hvm
      refine la12b_region p l q m s U V hvm hmo h ?_
      intro a w1 h
      show Code.wp _ _ _ a w1
      refine env_cond (b := false) rfl h ?_
      refine wp_skip ?_
      have h := h.keep [7, 14, 15, 999]
      show Code.wp _ _ _ a w1
      refine wp_seq ?_
      refine la14a_region p l q m s U V hsz h ?_
      intro a w1 h
      show Code.wp _ _ _ a w1
      refine wp_seq ?_
      cases hvl : Tm.validB (3, 0, (s ++ ⟨#[97]⟩)) V
      · refine la15a_region p l q m s U V hvl h ?_
        intro a w1 h
        show Code.wp _ _ _ a w1
        refine wp_ret ?_
        (try simp only [then_ret, block_ret])
        refine law_out rfl (h.get 10 rfl) h.defers ⟨rfl, hb0.trans (h.world.mono hb0.size)⟩
      · have hlo := long_cmp (by rw [hU, hV, uu_len L7 i n p l hi hnL.symm, uu_len L7 i n q m hi hnL.symm]) hvu hvl
        refine la15b_region p l q m s U V hvl hlo h ?_
        intro a w1 h
        show Code.wp _ _ _ a w1
        refine wp_ret ?_
        (try simp only [then_ret, block_ret])
        refine law_out rfl (h.get 10 rfl) h.defers ⟨rfl, hb0.trans (h.world.mono hb0.size)⟩
theorem law_arguments (p : Pay) (l : Fo) (q : Pay) (m : Fo) (s : ByteArray) (R : Fo) (b : Int) (A0 A1 A3 : Option Addr) (c0 c1 c3 : Nat) (w : World) (hA0 : ArgsB w w.heap.size A0 (Tm.len l) l) (hA1 : ArgsB w w.heap.size A1 (Tm.len m) m) (hsz : s.size ≤ 4611686018427387904) (hA3 : ArgsB w w.heap.size A3 (Tm.len R) R) (hb : (Lit.int .u8 b).wf = true) (hT : Tabs w) :
    Calls Tryd.prog 7 #[tv p A0 (Tm.len l) c0, tv q A1 (Tm.len m) c1, .string s, .slice A3 (Tm.len R) c3, .int .u8 b] w fun e w' => e = .returned (.bool true) ∧ Below w.heap.size w w' := by
  simp only [Lit.wf, Bool.and_eq_true, decide_eq_true_eq] at hb
  have h8 : IntKind.u8.min = 0 := by rfl
  have h9 : IntKind.u8.max = 255 := by rfl
  obtain ⟨z, rfl⟩ : ∃ z : Nat, b = z := ⟨b.toNat, by omega⟩
  exact law_arguments0 p l q m s R z A0 A1 A3 c0 c1 c3 w hA0 hA1 hsz hA3 (by omega) hT
end Go.Proofs.YtcjakmafojbhlaaDoor
