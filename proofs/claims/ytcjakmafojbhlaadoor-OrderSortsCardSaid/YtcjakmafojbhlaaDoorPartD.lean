/-
  The library's SymMerge at terms.
  The library's SymMerge at terms, as a whole.
  The library's SymMerge at terms merges two runs, side by side.
  The library's stable sort at terms.
-/
import Derived.Test.YtcjakmafojbhlaaDoorPartC
namespace Go.Proofs.YtcjakmafojbhlaaDoor
set_option linter.unusedVariables false
set_option linter.unusedSimpArgs false
open Go.RowKit
open Go.Sort (PermIn SortedIn swp permIn_all permIn_refl permIn_trans permIn_mono swp_permIn)
/-- All but a block is as it was. -/
def onlyP (w0 : World) (blk : Nat) : Pd := ⟨fun _ w => Only (· = blk) w0 w, fun _ _ _ h hb => h.trans (Only.of_below hb)⟩
/-- A slice value that reads as a row. -/
def rowAt (A : Option Addr) (n c : Nat) (F : Fo) : Pd := ⟨fun v w => v = .slice A n c ∧ n = Tm.len F ∧ ArgsB w w.heap.size A n F, fun _ _ _ h hb => ⟨h.1, h.2.1, (h.2.2.below hb (Nat.le_refl _)).up hb.size⟩⟩
section
variable {ops : Array Oper} {Q : Exit → Act → World → Prop} {E : Nat → Kd} {D : Nat → Nat} {base : Nat → Option Kd} {N : Nat}
theorem step_rowAt {i : Nat} {x y : Operand} {A : Option Addr} {n c : Nat} {F l r : Fo} {k : Nat} {p : Pay} (hop : (ops[i]?).map (·.op) = some (.indexAddr 22 x y)) (hx : Opd ops E D base N i x (.sat (rowAt A n c F))) (hy : Opd ops E D base N i y (.val (.int .i64 (k : Int)))) (hd : Tm.dropF F k = .node p l r) (hE : E i = .ptrT p l) : Step Tryd.prog ops Q E D base N i :=
  step_row_at (F := F) hop (fun a w h => by obtain ⟨e, hn, ha⟩ := hx a w h; exact ⟨A, c, by rw [e, hn], by rw [← hn]; exact ha⟩) hy hd hE
theorem step_sortcall {w0 : World} {blk pc : Nat} {b : Bool} {i : Nat} {t : Tmp} {x y : Operand} {p q : Pay} {l m : Fo} (C : CmpC w0 blk pc b) (g : Nat) (ok1 : OkT b (p, l)) (ok2 : OkT b (q, m)) (hop : (ops[i]?).map (·.op) = some (.call { callee := .value (.tmp t), args := #[x, y], argTypes := #[24, 24] })) (ht : Opd ops E D base N i (.tmp t) (.val (sortFn pc))) (hx : Opd ops E D base N i x (.term p l)) (hy : Opd ops E D base N i y (.term q m)) (hg : Opd ops E D base N i (.tmp g) (.sat (onlyP w0 blk))) (hE : E i = .val (.int .i64 (Tm.cmpK b (p, l) (q, m)))) : Step Tryd.prog ops Q E D base N i :=
  step_callv hop ht enters_sorted1 fun a w h => by
    obtain ⟨A, c, ex, ha⟩ := hx a w h
    obtain ⟨A', c', ey, ha'⟩ := hy a w h
    have ho : Only (· = blk) w0 w := hg a w h
    rw [show (#[x, y] : Array Operand).map a.eval ++ #[.pointer (some ⟨pc, 0, none⟩)] = #[tv p A (Tm.len l) c, tv q A' (Tm.len m) c', .pointer (some ⟨pc, 0, none⟩)] by rw [← ex, ← ey]; simp, hE]
    exact below_R (C (p, l) (q, m) A A' c c' w ho ok1 ok2 ha ha')
end
/-- The row that a block holds. -/
def rowF (d : Array Tg) : Fo := Tm.ofL (d.toList.map (·.1))
theorem rowF_len (d : Array Tg) : Tm.len (rowF d) = d.size := by rw [← Tm.len_toL, rowF, Tm.toL_ofL]; simp
theorem rowF_drop (d : Array Tg) (k : Nat) (hk : k < d.size) : ∃ r, Tm.dropF (rowF d) k = .node d[k]!.1.1 d[k]!.1.2 r := by
  obtain ⟨p, l, r, h⟩ := Tm.drop_at (F := rowF d) (k := k) (by rw [rowF_len]; exact hk)
  have h2 := Tm.toL_at h
  rw [rowF, Tm.toL_ofL] at h2
  have h3 : (d.toList.map (·.1))[k]? = some d[k]!.1 := by simp [hk]
  rw [h3] at h2
  have e := Option.some.inj h2
  exact ⟨r, by rw [h, e]⟩
theorem RowIn.of_at {S : Nat → Prop} {w : World} {b : Nat} : ∀ (F : Fo) (o : Nat), (∀ k p l r, Tm.dropF F k = .node p l r → ∃ A c, NodeAt S w b (o + k * 4) p l A c) → RowIn S w F b o
  | .nil, _, _ => trivial
  | .node p l r, o, h => by
    obtain ⟨A, c, hn⟩ := h 0 p l r rfl
    rw [Nat.zero_mul, Nat.add_zero] at hn
    refine ⟨hn.kind, hn.num, hn.name, ⟨A, c, hn.args, hn.inn.hi, hn.inn.row⟩, RowIn.of_at r (o + 4) fun k p' l' r' hk => ?_⟩
    obtain ⟨A', c', h'⟩ := h (k + 1) p' l' r' hk
    exact ⟨A', c', by rw [show o + 4 + k * 4 = o + (k + 1) * 4 by omega]; exact h'⟩
theorem St.argsIn {w0 w : World} {blk : Nat} {d : Array Tg} (h : St w0 blk d w) (h63 : d.size ≤ 9223372036854775807) : ArgsB w w.heap.size (some ⟨blk, 0, none⟩) (Tm.len (rowF d)) (rowF d) := by
  refine ⟨rfl, by rw [rowF_len]; exact h63, fun _ => ⟨blk, 0, rfl, Nat.lt_of_lt_of_le h.lt h.only.size, ?_⟩⟩
  refine (RowIn.of_at (S := fun k => k < w0.heap.size ∧ k ≠ blk) (rowF d) 0 fun k p l r hk => ?_).mono (fun x hx => Nat.lt_of_lt_of_le hx.1 h.only.size) _ _ _
  have hlt : k < d.size := by
    have := Tm.len_drop (rowF d) k
    rw [hk, rowF_len] at this
    simp only [Tm.len] at this
    omega
  obtain ⟨r', hr⟩ := rowF_drop d k hlt
  rw [hk] at hr
  cases hr
  obtain ⟨A, c, hn⟩ := h.row k hlt
  exact ⟨A, c, by rw [Nat.zero_add]; exact hn⟩
noncomputable def sy0Ops : Array Oper := ((Tryd.f81.body).bind (findReg 0)).getD #[]
noncomputable def sy1Ops : Array Oper := ((Tryd.f81.body).bind (findReg 1)).getD #[]
noncomputable def sy2Ops : Array Oper := ((Tryd.f81.body).bind (findReg 2)).getD #[]
noncomputable def sy3Ops : Array Oper := ((Tryd.f81.body).bind (findReg 3)).getD #[]
noncomputable def sy4Ops : Array Oper := ((Tryd.f81.body).bind (findReg 4)).getD #[]
noncomputable def sy5Ops : Array Oper := ((Tryd.f81.body).bind (findReg 5)).getD #[]
noncomputable def sy6Ops : Array Oper := ((Tryd.f81.body).bind (findReg 6)).getD #[]
noncomputable def sy7Ops : Array Oper := ((Tryd.f81.body).bind (findReg 7)).getD #[]
noncomputable def sy8Ops : Array Oper := ((Tryd.f81.body).bind (findReg 8)).getD #[]
noncomputable def sy9Ops : Array Oper := ((Tryd.f81.body).bind (findReg 9)).getD #[]
noncomputable def sy10Ops : Array Oper := ((Tryd.f81.body).bind (findReg 10)).getD #[]
noncomputable def sy11Ops : Array Oper := ((Tryd.f81.body).bind (findReg 11)).getD #[]
noncomputable def sy12Ops : Array Oper := ((Tryd.f81.body).bind (findReg 12)).getD #[]
noncomputable def sy13Ops : Array Oper := ((Tryd.f81.body).bind (findReg 13)).getD #[]
noncomputable def sy14Ops : Array Oper := ((Tryd.f81.body).bind (findReg 14)).getD #[]
noncomputable def sy15Ops : Array Oper := ((Tryd.f81.body).bind (findReg 15)).getD #[]
noncomputable def sy16Ops : Array Oper := ((Tryd.f81.body).bind (findReg 16)).getD #[]
noncomputable def sy17Ops : Array Oper := ((Tryd.f81.body).bind (findReg 17)).getD #[]
noncomputable def sy18Ops : Array Oper := ((Tryd.f81.body).bind (findReg 18)).getD #[]
noncomputable def sy19Ops : Array Oper := ((Tryd.f81.body).bind (findReg 19)).getD #[]
noncomputable def sy20Ops : Array Oper := ((Tryd.f81.body).bind (findReg 20)).getD #[]
noncomputable def sy21Ops : Array Oper := ((Tryd.f81.body).bind (findReg 21)).getD #[]
noncomputable def sy22Ops : Array Oper := ((Tryd.f81.body).bind (findReg 22)).getD #[]
noncomputable def sy23Ops : Array Oper := ((Tryd.f81.body).bind (findReg 23)).getD #[]
noncomputable def sy24Ops : Array Oper := ((Tryd.f81.body).bind (findReg 24)).getD #[]
noncomputable def sy25Ops : Array Oper := ((Tryd.f81.body).bind (findReg 25)).getD #[]
noncomputable def sy26Ops : Array Oper := ((Tryd.f81.body).bind (findReg 26)).getD #[]
noncomputable def sy27Ops : Array Oper := ((Tryd.f81.body).bind (findReg 27)).getD #[]
noncomputable def sy28Ops : Array Oper := ((Tryd.f81.body).bind (findReg 28)).getD #[]
noncomputable def sy29Ops : Array Oper := ((Tryd.f81.body).bind (findReg 29)).getD #[]
noncomputable def sy30Ops : Array Oper := ((Tryd.f81.body).bind (findReg 30)).getD #[]
noncomputable def sy31Ops : Array Oper := ((Tryd.f81.body).bind (findReg 31)).getD #[]
noncomputable def sy32Ops : Array Oper := ((Tryd.f81.body).bind (findReg 32)).getD #[]
noncomputable def sy33Ops : Array Oper := ((Tryd.f81.body).bind (findReg 33)).getD #[]
noncomputable def sy34Ops : Array Oper := ((Tryd.f81.body).bind (findReg 34)).getD #[]
noncomputable def sy35Ops : Array Oper := ((Tryd.f81.body).bind (findReg 35)).getD #[]
noncomputable def sy36Ops : Array Oper := ((Tryd.f81.body).bind (findReg 36)).getD #[]
noncomputable def sy37Ops : Array Oper := ((Tryd.f81.body).bind (findReg 37)).getD #[]
noncomputable def sy38Ops : Array Oper := ((Tryd.f81.body).bind (findReg 38)).getD #[]
noncomputable def sy39Ops : Array Oper := ((Tryd.f81.body).bind (findReg 39)).getD #[]
noncomputable def sy40Ops : Array Oper := ((Tryd.f81.body).bind (findReg 40)).getD #[]
noncomputable def sy41Ops : Array Oper := ((Tryd.f81.body).bind (findReg 41)).getD #[]
noncomputable def sy42Ops : Array Oper := ((Tryd.f81.body).bind (findReg 42)).getD #[]
noncomputable def sy43Ops : Array Oper := ((Tryd.f81.body).bind (findReg 43)).getD #[]
noncomputable def sy44Ops : Array Oper := ((Tryd.f81.body).bind (findReg 44)).getD #[]
theorem sy_body : Tryd.f81.body = some (.seq (.seq (.region 0 sy0Ops false) (.cond (.tmp 28) (.seq (.region 1 sy1Ops false) (.seq (.region 2 sy2Ops false) (.seq (.block 0 (.loop (.seq (.seq (.region 3 sy3Ops false) (.cond (.tmp 33) .skip (.exit 0))) (.block 1 (.seq (.region 4 sy4Ops false) (.seq (.region 5 sy5Ops true) (.cond (.tmp 50) (.region 6 sy6Ops false) (.region 7 sy7Ops false)))))))) (.seq (.seq (.region 8 sy8Ops false) (.block 2 (.loop (.seq (.seq (.region 9 sy9Ops false) (.cond (.tmp 58) .skip (.exit 2))) (.seq (.block 3 (.region 11 sy11Ops true)) (.region 10 sy10Ops false)))))) .ret)))) .skip)) (.seq (.seq (.region 12 sy12Ops false) (.cond (.tmp 80) (.seq (.region 13 sy13Ops false) (.seq (.region 14 sy14Ops false) (.seq (.block 4 (.loop (.seq (.seq (.region 15 sy15Ops false) (.cond (.tmp 85) .skip (.exit 4))) (.block 5 (.seq (.region 16 sy16Ops false) (.seq (.region 17 sy17Ops true) (.cond (.tmp 103) (.region 18 sy18Ops false) (.region 19 sy19Ops false)))))))) (.seq (.seq (.region 20 sy20Ops false) (.block 6 (.loop (.seq (.seq (.region 21 sy21Ops false) (.cond (.tmp 110) .skip (.exit 6))) (.seq (.block 7 (.region 23 sy23Ops true)) (.region 22 sy22Ops false)))))) .ret)))) .skip)) (.seq (.region 24 sy24Ops false) (.seq (.region 25 sy25Ops false) (.seq (.region 26 sy26Ops false) (.seq (.seq (.region 27 sy27Ops false) (.cond (.tmp 140) (.seq (.region 28 sy28Ops false) (.region 29 sy29Ops false)) (.seq (.region 30 sy30Ops false) (.region 31 sy31Ops false)))) (.seq (.region 32 sy32Ops false) (.seq (.block 8 (.loop (.seq (.seq (.region 33 sy33Ops false) (.cond (.tmp 151) .skip (.exit 8))) (.block 9 (.seq (.region 34 sy34Ops false) (.seq (.region 35 sy35Ops true) (.cond (.tmp 171) (.region 36 sy36Ops false) (.region 37 sy37Ops false)))))))) (.seq (.region 38 sy38Ops false) (.seq (.seq (.region 39 sy39Ops false) (.cond (.tmp 185) (.region 40 sy40Ops false) .skip)) (.seq (.seq (.region 41 sy41Ops false) (.cond (.tmp 199) (.region 42 sy42Ops false) .skip)) (.seq (.region 43 sy43Ops false) (.cond (.tmp 213) (.region 44 sy44Ops false) .skip))))))))))))) := by kernel_rfl
theorem sy0_region {Q : Exit → Act → World → Prop} (blk cap pc sz lo m hi : Nat) (h63 : sz ≤ 4611686018427387903) (ham : lo < m) (hmh : m < hi) (hh : hi ≤ sz) (h1 : lo + 1 < m) {w0 : World} {a : Act} {w : World} (h : Hold 220 [(0, .val (.slice (some ⟨blk, 0, none⟩) sz cap)), (1, .val (.int .i64 ((lo : Nat) : Int))), (2, .val (.int .i64 ((m : Nat) : Int))), (3, .val (.int .i64 ((hi : Nat) : Int))), (4, .val (sortFn pc))] w0 a w)
    (hQ : ∀ a' w', Hold 220 [(0, .val (.slice (some ⟨blk, 0, none⟩) sz cap)), (1, .val (.int .i64 ((lo : Nat) : Int))), (2, .val (.int .i64 ((m : Nat) : Int))), (3, .val (.int .i64 ((hi : Nat) : Int))), (4, .val (sortFn pc)), (28, .val (.bool false))] w0 a' w' → Q .normal a' w') : (Code.region 0 sy0Ops false).wp Tryd.prog Q a w := by
  refine region_seq (w0 := w) 4 (by kernel_rfl) ?_
  rw [show List.range 4 = [0, 1, 2, 3] from rfl]
  refine env_one (i := 0) (d := 25) (k := .val (.int .i64 ((m : Nat) : Int))) (step_move (by kernel_rfl) (Opd.of_base 2 rfl) rfl) (by kernel_rfl) (by decide) h ?_
  clear h
  intro a w h
  refine env_one (i := 1) (d := 26) (k := .val (.int .i64 ((lo : Nat) : Int))) (step_move (by kernel_rfl) (Opd.of_base 1 rfl) rfl) (by kernel_rfl) (by decide) h ?_
  clear h
  intro a w h
  refine env_one (i := 2) (d := 27) (k := .val (.int .i64 ((m - lo : Nat) : Int))) (step_sub (m := ((m : Nat) : Int)) (n := ((lo : Nat) : Int)) (s := ((m - lo : Nat) : Int)) (by kernel_rfl) (Opd.of_base 25 rfl) (Opd.of_base 26 rfl) (by rw [IntKind.wrap_i64]; omega) rfl) (by kernel_rfl) (by decide) h ?_
  clear h
  intro a w h
  refine env_one (i := 3) (d := 28) (k := .val (.bool false)) (step_eqb_int (m := ((m - lo : Nat) : Int)) (n := 1) (by kernel_rfl) (Opd.of_base 27 rfl) (Opd.const _) (by simp; omega) rfl) (by kernel_rfl) (by decide) h ?_
  clear h
  intro a w h
  exact hQ a w (h.keep [0, 1, 2, 3, 4, 28])
theorem sy12_region {Q : Exit → Act → World → Prop} (blk cap pc sz lo m hi : Nat) (h63 : sz ≤ 4611686018427387903) (ham : lo < m) (hmh : m < hi) (hh : hi ≤ sz) (h1 : m + 1 < hi) {w0 : World} {a : Act} {w : World} (h : Hold 220 [(0, .val (.slice (some ⟨blk, 0, none⟩) sz cap)), (1, .val (.int .i64 ((lo : Nat) : Int))), (2, .val (.int .i64 ((m : Nat) : Int))), (3, .val (.int .i64 ((hi : Nat) : Int))), (4, .val (sortFn pc))] w0 a w)
    (hQ : ∀ a' w', Hold 220 [(0, .val (.slice (some ⟨blk, 0, none⟩) sz cap)), (1, .val (.int .i64 ((lo : Nat) : Int))), (2, .val (.int .i64 ((m : Nat) : Int))), (3, .val (.int .i64 ((hi : Nat) : Int))), (4, .val (sortFn pc)), (80, .val (.bool false))] w0 a' w' → Q .normal a' w') : (Code.region 12 sy12Ops false).wp Tryd.prog Q a w := by
  refine region_seq (w0 := w) 4 (by kernel_rfl) ?_
  rw [show List.range 4 = [0, 1, 2, 3] from rfl]
  refine env_one (i := 0) (d := 77) (k := .val (.int .i64 ((hi : Nat) : Int))) (step_move (by kernel_rfl) (Opd.of_base 3 rfl) rfl) (by kernel_rfl) (by decide) h ?_
  clear h
  intro a w h
  refine env_one (i := 1) (d := 78) (k := .val (.int .i64 ((m : Nat) : Int))) (step_move (by kernel_rfl) (Opd.of_base 2 rfl) rfl) (by kernel_rfl) (by decide) h ?_
  clear h
  intro a w h
  refine env_one (i := 2) (d := 79) (k := .val (.int .i64 ((hi - m : Nat) : Int))) (step_sub (m := ((hi : Nat) : Int)) (n := ((m : Nat) : Int)) (s := ((hi - m : Nat) : Int)) (by kernel_rfl) (Opd.of_base 77 rfl) (Opd.of_base 78 rfl) (by rw [IntKind.wrap_i64]; omega) rfl) (by kernel_rfl) (by decide) h ?_
  clear h
  intro a w h
  refine env_one (i := 3) (d := 80) (k := .val (.bool false)) (step_eqb_int (m := ((hi - m : Nat) : Int)) (n := 1) (by kernel_rfl) (Opd.of_base 79 rfl) (Opd.const _) (by simp; omega) rfl) (by kernel_rfl) (by decide) h ?_
  clear h
  intro a w h
  exact hQ a w (h.keep [0, 1, 2, 3, 4, 80])
theorem sy24_region {Q : Exit → Act → World → Prop} (blk cap pc sz lo m hi : Nat) (h63 : sz ≤ 4611686018427387903) (ham : lo < m) (hmh : m < hi) (hh : hi ≤ sz) {w0 : World} {a : Act} {w : World} (h : Hold 220 [(0, .val (.slice (some ⟨blk, 0, none⟩) sz cap)), (1, .val (.int .i64 ((lo : Nat) : Int))), (2, .val (.int .i64 ((m : Nat) : Int))), (3, .val (.int .i64 ((hi : Nat) : Int))), (4, .val (sortFn pc))] w0 a w)
    (hQ : ∀ a' w', Hold 220 [(0, .val (.slice (some ⟨blk, 0, none⟩) sz cap)), (1, .val (.int .i64 ((lo : Nat) : Int))), (2, .val (.int .i64 ((m : Nat) : Int))), (3, .val (.int .i64 ((hi : Nat) : Int))), (4, .val (sortFn pc)), (18, .val (.int .i64 (((lo + hi) / 2 : Nat) : Int)))] w0 a' w' → Q .normal a' w') : (Code.region 24 sy24Ops false).wp Tryd.prog Q a w := by
  refine region_seq (w0 := w) 7 (by kernel_rfl) ?_
  rw [show List.range 7 = [0, 1, 2, 3, 4, 5, 6] from rfl]
  refine env_one (i := 0) (d := 129) (k := .val (.int .i64 ((lo : Nat) : Int))) (step_move (by kernel_rfl) (Opd.of_base 1 rfl) rfl) (by kernel_rfl) (by decide) h ?_
  clear h
  intro a w h
  refine env_one (i := 1) (d := 130) (k := .val (.int .i64 ((hi : Nat) : Int))) (step_move (by kernel_rfl) (Opd.of_base 3 rfl) rfl) (by kernel_rfl) (by decide) h ?_
  clear h
  intro a w h
  refine env_one (i := 2) (d := 131) (k := .val (.int .i64 ((lo + hi : Nat) : Int))) (step_add (m := ((lo : Nat) : Int)) (n := ((hi : Nat) : Int)) (s := ((lo + hi : Nat) : Int)) (by kernel_rfl) (Opd.of_base 129 rfl) (Opd.of_base 130 rfl) (by rw [IntKind.wrap_i64]; omega) rfl) (by kernel_rfl) (by decide) h ?_
  clear h
  intro a w h
  refine env_one (i := 3) (d := 132) (k := .val (.int .u64 ((lo + hi : Nat) : Int))) (step_conv_u (n := lo + hi) (by omega) (by kernel_rfl) (Opd.of_base 131 rfl) rfl) (by kernel_rfl) (by decide) h ?_
  clear h
  intro a w h
  refine env_one (i := 4) (d := 133) (k := .val (.int .u64 (((lo + hi) / 2 : Nat) : Int))) (step_half (n := lo + hi) (by omega) (by kernel_rfl) (Opd.of_base 132 rfl) rfl) (by kernel_rfl) (by decide) h ?_
  clear h
  intro a w h
  refine env_one (i := 5) (d := 134) (k := .val (.int .i64 (((lo + hi) / 2 : Nat) : Int))) (step_conv_i (n := (lo + hi) / 2) (by omega) (by kernel_rfl) (Opd.of_base 133 rfl) rfl) (by kernel_rfl) (by decide) h ?_
  clear h
  intro a w h
  refine env_one (i := 6) (d := 18) (k := .val (.int .i64 (((lo + hi) / 2 : Nat) : Int))) (step_assign (by kernel_rfl) (Opd.of_base 134 rfl) rfl) (by kernel_rfl) (by decide) h ?_
  clear h
  intro a w h
  exact hQ a w (h.keep [0, 1, 2, 3, 4, 18])
theorem sy25_region {Q : Exit → Act → World → Prop} (blk cap pc sz lo m hi : Nat) (mid : Nat) (h63 : sz ≤ 4611686018427387903) (ham : lo < m) (hmh : m < hi) (hh : hi ≤ sz) (hmid : mid = (lo + hi) / 2) {w0 : World} {a : Act} {w : World} (h : Hold 220 [(0, .val (.slice (some ⟨blk, 0, none⟩) sz cap)), (1, .val (.int .i64 ((lo : Nat) : Int))), (2, .val (.int .i64 ((m : Nat) : Int))), (3, .val (.int .i64 ((hi : Nat) : Int))), (4, .val (sortFn pc)), (18, .val (.int .i64 ((mid : Nat) : Int)))] w0 a w)
    (hQ : ∀ a' w', Hold 220 [(0, .val (.slice (some ⟨blk, 0, none⟩) sz cap)), (1, .val (.int .i64 ((lo : Nat) : Int))), (2, .val (.int .i64 ((m : Nat) : Int))), (3, .val (.int .i64 ((hi : Nat) : Int))), (4, .val (sortFn pc)), (18, .val (.int .i64 ((mid : Nat) : Int))), (19, .val (.int .i64 ((mid + m : Nat) : Int)))] w0 a' w' → Q .normal a' w') : (Code.region 25 sy25Ops false).wp Tryd.prog Q a w := by
  refine region_seq (w0 := w) 4 (by kernel_rfl) ?_
  rw [show List.range 4 = [0, 1, 2, 3] from rfl]
  refine env_one (i := 0) (d := 135) (k := .val (.int .i64 ((mid : Nat) : Int))) (step_move (by kernel_rfl) (Opd.of_base 18 rfl) rfl) (by kernel_rfl) (by decide) h ?_
  clear h
  intro a w h
  refine env_one (i := 1) (d := 136) (k := .val (.int .i64 ((m : Nat) : Int))) (step_move (by kernel_rfl) (Opd.of_base 2 rfl) rfl) (by kernel_rfl) (by decide) h ?_
  clear h
  intro a w h
  refine env_one (i := 2) (d := 137) (k := .val (.int .i64 ((mid + m : Nat) : Int))) (step_add (m := ((mid : Nat) : Int)) (n := ((m : Nat) : Int)) (s := ((mid + m : Nat) : Int)) (by kernel_rfl) (Opd.of_base 135 rfl) (Opd.of_base 136 rfl) (by rw [IntKind.wrap_i64]; omega) rfl) (by kernel_rfl) (by decide) h ?_
  clear h
  intro a w h
  refine env_one (i := 3) (d := 19) (k := .val (.int .i64 ((mid + m : Nat) : Int))) (step_assign (by kernel_rfl) (Opd.of_base 137 rfl) rfl) (by kernel_rfl) (by decide) h ?_
  clear h
  intro a w h
  exact hQ a w (h.keep [0, 1, 2, 3, 4, 18, 19])
theorem sy26_region {Q : Exit → Act → World → Prop} (blk cap pc sz lo m hi : Nat) (mid : Nat) (h63 : sz ≤ 4611686018427387903) (ham : lo < m) (hmh : m < hi) (hh : hi ≤ sz) (hmid : mid = (lo + hi) / 2) {w0 : World} {a : Act} {w : World} (h : Hold 220 [(0, .val (.slice (some ⟨blk, 0, none⟩) sz cap)), (1, .val (.int .i64 ((lo : Nat) : Int))), (2, .val (.int .i64 ((m : Nat) : Int))), (3, .val (.int .i64 ((hi : Nat) : Int))), (4, .val (sortFn pc)), (18, .val (.int .i64 ((mid : Nat) : Int))), (19, .val (.int .i64 ((mid + m : Nat) : Int)))] w0 a w)
    (hQ : ∀ a' w', Hold 220 [(0, .val (.slice (some ⟨blk, 0, none⟩) sz cap)), (1, .val (.int .i64 ((lo : Nat) : Int))), (2, .val (.int .i64 ((m : Nat) : Int))), (3, .val (.int .i64 ((hi : Nat) : Int))), (4, .val (sortFn pc)), (18, .val (.int .i64 ((mid : Nat) : Int))), (19, .val (.int .i64 ((mid + m : Nat) : Int)))] w0 a' w' → Q .normal a' w') : (Code.region 26 sy26Ops false).wp Tryd.prog Q a w := by
  refine region_seq (w0 := w) 2 (by kernel_rfl) ?_
  rw [show List.range 2 = [0, 1] from rfl]
  refine env_one (i := 0) (d := 20) (k := .val (.int .i64 0)) (step_assign (by kernel_rfl) (Opd.const _) rfl) (by kernel_rfl) (by decide) h ?_
  clear h
  intro a w h
  refine env_one (i := 1) (d := 21) (k := .val (.int .i64 0)) (step_assign (by kernel_rfl) (Opd.const _) rfl) (by kernel_rfl) (by decide) h ?_
  clear h
  intro a w h
  exact hQ a w (h.keep [0, 1, 2, 3, 4, 18, 19])
theorem sy27_region {Q : Exit → Act → World → Prop} (blk cap pc sz lo m hi : Nat) (mid : Nat) (h63 : sz ≤ 4611686018427387903) (ham : lo < m) (hmh : m < hi) (hh : hi ≤ sz) (hmid : mid = (lo + hi) / 2) {w0 : World} {a : Act} {w : World} (h : Hold 220 [(0, .val (.slice (some ⟨blk, 0, none⟩) sz cap)), (1, .val (.int .i64 ((lo : Nat) : Int))), (2, .val (.int .i64 ((m : Nat) : Int))), (3, .val (.int .i64 ((hi : Nat) : Int))), (4, .val (sortFn pc)), (18, .val (.int .i64 ((mid : Nat) : Int))), (19, .val (.int .i64 ((mid + m : Nat) : Int)))] w0 a w)
    (hQ : ∀ a' w', Hold 220 [(0, .val (.slice (some ⟨blk, 0, none⟩) sz cap)), (1, .val (.int .i64 ((lo : Nat) : Int))), (2, .val (.int .i64 ((m : Nat) : Int))), (3, .val (.int .i64 ((hi : Nat) : Int))), (4, .val (sortFn pc)), (18, .val (.int .i64 ((mid : Nat) : Int))), (19, .val (.int .i64 ((mid + m : Nat) : Int))), (140, .val (.bool (decide (((mid : Nat) : Int) < ((m : Nat) : Int)))))] w0 a' w' → Q .normal a' w') : (Code.region 27 sy27Ops false).wp Tryd.prog Q a w := by
  refine region_seq (w0 := w) 3 (by kernel_rfl) ?_
  rw [show List.range 3 = [0, 1, 2] from rfl]
  refine env_one (i := 0) (d := 138) (k := .val (.int .i64 ((m : Nat) : Int))) (step_move (by kernel_rfl) (Opd.of_base 2 rfl) rfl) (by kernel_rfl) (by decide) h ?_
  clear h
  intro a w h
  refine env_one (i := 1) (d := 139) (k := .val (.int .i64 ((mid : Nat) : Int))) (step_move (by kernel_rfl) (Opd.of_base 18 rfl) rfl) (by kernel_rfl) (by decide) h ?_
  clear h
  intro a w h
  refine env_one (i := 2) (d := 140) (k := .val (.bool (decide (((mid : Nat) : Int) < ((m : Nat) : Int))))) (step_gt_int (m := ((m : Nat) : Int)) (n := ((mid : Nat) : Int)) (by kernel_rfl) (Opd.of_base 138 rfl) (Opd.of_base 139 rfl) rfl rfl) (by kernel_rfl) (by decide) h ?_
  clear h
  intro a w h
  exact hQ a w (h.keep [0, 1, 2, 3, 4, 18, 19, 140])
theorem sy28_region {Q : Exit → Act → World → Prop} (blk cap pc sz lo m hi : Nat) (mid : Nat) (h63 : sz ≤ 4611686018427387903) (ham : lo < m) (hmh : m < hi) (hh : hi ≤ sz) (hmid : mid = (lo + hi) / 2) (hm : mid < m) {w0 : World} {a : Act} {w : World} (h : Hold 220 [(0, .val (.slice (some ⟨blk, 0, none⟩) sz cap)), (1, .val (.int .i64 ((lo : Nat) : Int))), (2, .val (.int .i64 ((m : Nat) : Int))), (3, .val (.int .i64 ((hi : Nat) : Int))), (4, .val (sortFn pc)), (18, .val (.int .i64 ((mid : Nat) : Int))), (19, .val (.int .i64 ((mid + m : Nat) : Int)))] w0 a w)
    (hQ : ∀ a' w', Hold 220 [(0, .val (.slice (some ⟨blk, 0, none⟩) sz cap)), (1, .val (.int .i64 ((lo : Nat) : Int))), (2, .val (.int .i64 ((m : Nat) : Int))), (3, .val (.int .i64 ((hi : Nat) : Int))), (4, .val (sortFn pc)), (18, .val (.int .i64 ((mid : Nat) : Int))), (19, .val (.int .i64 ((mid + m : Nat) : Int))), (20, .val (.int .i64 (((mid + m) - hi : Nat) : Int)))] w0 a' w' → Q .normal a' w') : (Code.region 28 sy28Ops false).wp Tryd.prog Q a w := by
  refine region_seq (w0 := w) 4 (by kernel_rfl) ?_
  rw [show List.range 4 = [0, 1, 2, 3] from rfl]
  refine env_one (i := 0) (d := 141) (k := .val (.int .i64 ((mid + m : Nat) : Int))) (step_move (by kernel_rfl) (Opd.of_base 19 rfl) rfl) (by kernel_rfl) (by decide) h ?_
  clear h
  intro a w h
  refine env_one (i := 1) (d := 142) (k := .val (.int .i64 ((hi : Nat) : Int))) (step_move (by kernel_rfl) (Opd.of_base 3 rfl) rfl) (by kernel_rfl) (by decide) h ?_
  clear h
  intro a w h
  refine env_one (i := 2) (d := 143) (k := .val (.int .i64 (((mid + m) - hi : Nat) : Int))) (step_sub (m := ((mid + m : Nat) : Int)) (n := ((hi : Nat) : Int)) (s := (((mid + m) - hi : Nat) : Int)) (by kernel_rfl) (Opd.of_base 141 rfl) (Opd.of_base 142 rfl) (by rw [IntKind.wrap_i64]; omega) rfl) (by kernel_rfl) (by decide) h ?_
  clear h
  intro a w h
  refine env_one (i := 3) (d := 20) (k := .val (.int .i64 (((mid + m) - hi : Nat) : Int))) (step_assign (by kernel_rfl) (Opd.of_base 143 rfl) rfl) (by kernel_rfl) (by decide) h ?_
  clear h
  intro a w h
  exact hQ a w (h.keep [0, 1, 2, 3, 4, 18, 19, 20])
theorem sy29_region {Q : Exit → Act → World → Prop} (blk cap pc sz lo m hi : Nat) (mid : Nat) (h63 : sz ≤ 4611686018427387903) (ham : lo < m) (hmh : m < hi) (hh : hi ≤ sz) (hmid : mid = (lo + hi) / 2) (hm : mid < m) {w0 : World} {a : Act} {w : World} (h : Hold 220 [(0, .val (.slice (some ⟨blk, 0, none⟩) sz cap)), (1, .val (.int .i64 ((lo : Nat) : Int))), (2, .val (.int .i64 ((m : Nat) : Int))), (3, .val (.int .i64 ((hi : Nat) : Int))), (4, .val (sortFn pc)), (18, .val (.int .i64 ((mid : Nat) : Int))), (19, .val (.int .i64 ((mid + m : Nat) : Int))), (20, .val (.int .i64 ((mid + m - hi : Nat) : Int)))] w0 a w)
    (hQ : ∀ a' w', Hold 220 [(0, .val (.slice (some ⟨blk, 0, none⟩) sz cap)), (1, .val (.int .i64 ((lo : Nat) : Int))), (2, .val (.int .i64 ((m : Nat) : Int))), (3, .val (.int .i64 ((hi : Nat) : Int))), (4, .val (sortFn pc)), (18, .val (.int .i64 ((mid : Nat) : Int))), (19, .val (.int .i64 ((mid + m : Nat) : Int))), (20, .val (.int .i64 ((mid + m - hi : Nat) : Int))), (21, .val (.int .i64 ((mid : Nat) : Int)))] w0 a' w' → Q .normal a' w') : (Code.region 29 sy29Ops false).wp Tryd.prog Q a w := by
  refine region_seq (w0 := w) 2 (by kernel_rfl) ?_
  rw [show List.range 2 = [0, 1] from rfl]
  refine env_one (i := 0) (d := 144) (k := .val (.int .i64 ((mid : Nat) : Int))) (step_move (by kernel_rfl) (Opd.of_base 18 rfl) rfl) (by kernel_rfl) (by decide) h ?_
  clear h
  intro a w h
  refine env_one (i := 1) (d := 21) (k := .val (.int .i64 ((mid : Nat) : Int))) (step_assign (by kernel_rfl) (Opd.of_base 144 rfl) rfl) (by kernel_rfl) (by decide) h ?_
  clear h
  intro a w h
  exact hQ a w (h.keep [0, 1, 2, 3, 4, 18, 19, 20, 21])
theorem sy30_region {Q : Exit → Act → World → Prop} (blk cap pc sz lo m hi : Nat) (mid : Nat) (h63 : sz ≤ 4611686018427387903) (ham : lo < m) (hmh : m < hi) (hh : hi ≤ sz) (hmid : mid = (lo + hi) / 2) {w0 : World} {a : Act} {w : World} (h : Hold 220 [(0, .val (.slice (some ⟨blk, 0, none⟩) sz cap)), (1, .val (.int .i64 ((lo : Nat) : Int))), (2, .val (.int .i64 ((m : Nat) : Int))), (3, .val (.int .i64 ((hi : Nat) : Int))), (4, .val (sortFn pc)), (18, .val (.int .i64 ((mid : Nat) : Int))), (19, .val (.int .i64 ((mid + m : Nat) : Int)))] w0 a w)
    (hQ : ∀ a' w', Hold 220 [(0, .val (.slice (some ⟨blk, 0, none⟩) sz cap)), (1, .val (.int .i64 ((lo : Nat) : Int))), (2, .val (.int .i64 ((m : Nat) : Int))), (3, .val (.int .i64 ((hi : Nat) : Int))), (4, .val (sortFn pc)), (18, .val (.int .i64 ((mid : Nat) : Int))), (19, .val (.int .i64 ((mid + m : Nat) : Int))), (20, .val (.int .i64 ((lo : Nat) : Int)))] w0 a' w' → Q .normal a' w') : (Code.region 30 sy30Ops false).wp Tryd.prog Q a w := by
  refine region_seq (w0 := w) 2 (by kernel_rfl) ?_
  rw [show List.range 2 = [0, 1] from rfl]
  refine env_one (i := 0) (d := 145) (k := .val (.int .i64 ((lo : Nat) : Int))) (step_move (by kernel_rfl) (Opd.of_base 1 rfl) rfl) (by kernel_rfl) (by decide) h ?_
  clear h
  intro a w h
  refine env_one (i := 1) (d := 20) (k := .val (.int .i64 ((lo : Nat) : Int))) (step_assign (by kernel_rfl) (Opd.of_base 145 rfl) rfl) (by kernel_rfl) (by decide) h ?_
  clear h
  intro a w h
  exact hQ a w (h.keep [0, 1, 2, 3, 4, 18, 19, 20])
theorem sy31_region {Q : Exit → Act → World → Prop} (blk cap pc sz lo m hi : Nat) (mid : Nat) (h63 : sz ≤ 4611686018427387903) (ham : lo < m) (hmh : m < hi) (hh : hi ≤ sz) (hmid : mid = (lo + hi) / 2) {w0 : World} {a : Act} {w : World} (h : Hold 220 [(0, .val (.slice (some ⟨blk, 0, none⟩) sz cap)), (1, .val (.int .i64 ((lo : Nat) : Int))), (2, .val (.int .i64 ((m : Nat) : Int))), (3, .val (.int .i64 ((hi : Nat) : Int))), (4, .val (sortFn pc)), (18, .val (.int .i64 ((mid : Nat) : Int))), (19, .val (.int .i64 ((mid + m : Nat) : Int))), (20, .val (.int .i64 ((lo : Nat) : Int)))] w0 a w)
    (hQ : ∀ a' w', Hold 220 [(0, .val (.slice (some ⟨blk, 0, none⟩) sz cap)), (1, .val (.int .i64 ((lo : Nat) : Int))), (2, .val (.int .i64 ((m : Nat) : Int))), (3, .val (.int .i64 ((hi : Nat) : Int))), (4, .val (sortFn pc)), (18, .val (.int .i64 ((mid : Nat) : Int))), (19, .val (.int .i64 ((mid + m : Nat) : Int))), (20, .val (.int .i64 ((lo : Nat) : Int))), (21, .val (.int .i64 ((m : Nat) : Int)))] w0 a' w' → Q .normal a' w') : (Code.region 31 sy31Ops false).wp Tryd.prog Q a w := by
  refine region_seq (w0 := w) 2 (by kernel_rfl) ?_
  rw [show List.range 2 = [0, 1] from rfl]
  refine env_one (i := 0) (d := 146) (k := .val (.int .i64 ((m : Nat) : Int))) (step_move (by kernel_rfl) (Opd.of_base 2 rfl) rfl) (by kernel_rfl) (by decide) h ?_
  clear h
  intro a w h
  refine env_one (i := 1) (d := 21) (k := .val (.int .i64 ((m : Nat) : Int))) (step_assign (by kernel_rfl) (Opd.of_base 146 rfl) rfl) (by kernel_rfl) (by decide) h ?_
  clear h
  intro a w h
  exact hQ a w (h.keep [0, 1, 2, 3, 4, 18, 19, 20, 21])
theorem sy32_region {Q : Exit → Act → World → Prop} (blk cap pc sz lo m hi : Nat) (mid : Nat) (s r : Nat) (h63 : sz ≤ 4611686018427387903) (ham : lo < m) (hmh : m < hi) (hh : hi ≤ sz) (hmid : mid = (lo + hi) / 2) {w0 : World} {a : Act} {w : World} (h : Hold 220 [(0, .val (.slice (some ⟨blk, 0, none⟩) sz cap)), (1, .val (.int .i64 ((lo : Nat) : Int))), (2, .val (.int .i64 ((m : Nat) : Int))), (3, .val (.int .i64 ((hi : Nat) : Int))), (4, .val (sortFn pc)), (18, .val (.int .i64 ((mid : Nat) : Int))), (19, .val (.int .i64 ((mid + m : Nat) : Int))), (20, .val (.int .i64 ((s : Nat) : Int))), (21, .val (.int .i64 ((r : Nat) : Int)))] w0 a w)
    (hQ : ∀ a' w', Hold 220 [(0, .val (.slice (some ⟨blk, 0, none⟩) sz cap)), (1, .val (.int .i64 ((lo : Nat) : Int))), (2, .val (.int .i64 ((m : Nat) : Int))), (3, .val (.int .i64 ((hi : Nat) : Int))), (4, .val (sortFn pc)), (18, .val (.int .i64 ((mid : Nat) : Int))), (19, .val (.int .i64 ((mid + m : Nat) : Int))), (20, .val (.int .i64 ((s : Nat) : Int))), (21, .val (.int .i64 ((r : Nat) : Int))), (22, .val (.int .i64 (((mid + m) - 1 : Nat) : Int)))] w0 a' w' → Q .normal a' w') : (Code.region 32 sy32Ops false).wp Tryd.prog Q a w := by
  refine region_seq (w0 := w) 3 (by kernel_rfl) ?_
  rw [show List.range 3 = [0, 1, 2] from rfl]
  refine env_one (i := 0) (d := 147) (k := .val (.int .i64 ((mid + m : Nat) : Int))) (step_move (by kernel_rfl) (Opd.of_base 19 rfl) rfl) (by kernel_rfl) (by decide) h ?_
  clear h
  intro a w h
  refine env_one (i := 1) (d := 148) (k := .val (.int .i64 (((mid + m) - 1 : Nat) : Int))) (step_sub (m := ((mid + m : Nat) : Int)) (n := 1) (s := (((mid + m) - 1 : Nat) : Int)) (by kernel_rfl) (Opd.of_base 147 rfl) (Opd.const _) (by rw [IntKind.wrap_i64]; omega) rfl) (by kernel_rfl) (by decide) h ?_
  clear h
  intro a w h
  refine env_one (i := 2) (d := 22) (k := .val (.int .i64 (((mid + m) - 1 : Nat) : Int))) (step_assign (by kernel_rfl) (Opd.of_base 148 rfl) rfl) (by kernel_rfl) (by decide) h ?_
  clear h
  intro a w h
  exact hQ a w (h.keep [0, 1, 2, 3, 4, 18, 19, 20, 21, 22])
theorem sy33_region {Q : Exit → Act → World → Prop} (blk cap pc sz lo m hi : Nat) (mid : Nat) (s r : Nat) (h63 : sz ≤ 4611686018427387903) (ham : lo < m) (hmh : m < hi) (hh : hi ≤ sz) (hmid : mid = (lo + hi) / 2) {w0 : World} {a : Act} {w : World} (h : Hold 220 [(0, .val (.slice (some ⟨blk, 0, none⟩) sz cap)), (1, .val (.int .i64 ((lo : Nat) : Int))), (2, .val (.int .i64 ((m : Nat) : Int))), (3, .val (.int .i64 ((hi : Nat) : Int))), (4, .val (sortFn pc)), (18, .val (.int .i64 ((mid : Nat) : Int))), (19, .val (.int .i64 ((mid + m : Nat) : Int))), (20, .val (.int .i64 ((s : Nat) : Int))), (21, .val (.int .i64 ((r : Nat) : Int))), (22, .val (.int .i64 ((mid + m - 1 : Nat) : Int)))] w0 a w)
    (hQ : ∀ a' w', Hold 220 [(0, .val (.slice (some ⟨blk, 0, none⟩) sz cap)), (1, .val (.int .i64 ((lo : Nat) : Int))), (2, .val (.int .i64 ((m : Nat) : Int))), (3, .val (.int .i64 ((hi : Nat) : Int))), (4, .val (sortFn pc)), (18, .val (.int .i64 ((mid : Nat) : Int))), (19, .val (.int .i64 ((mid + m : Nat) : Int))), (20, .val (.int .i64 ((s : Nat) : Int))), (21, .val (.int .i64 ((r : Nat) : Int))), (22, .val (.int .i64 ((mid + m - 1 : Nat) : Int))), (151, .val (.bool (decide (((s : Nat) : Int) < ((r : Nat) : Int)))))] w0 a' w' → Q .normal a' w') : (Code.region 33 sy33Ops false).wp Tryd.prog Q a w := by
  refine region_seq (w0 := w) 3 (by kernel_rfl) ?_
  rw [show List.range 3 = [0, 1, 2] from rfl]
  refine env_one (i := 0) (d := 149) (k := .val (.int .i64 ((s : Nat) : Int))) (step_move (by kernel_rfl) (Opd.of_base 20 rfl) rfl) (by kernel_rfl) (by decide) h ?_
  clear h
  intro a w h
  refine env_one (i := 1) (d := 150) (k := .val (.int .i64 ((r : Nat) : Int))) (step_move (by kernel_rfl) (Opd.of_base 21 rfl) rfl) (by kernel_rfl) (by decide) h ?_
  clear h
  intro a w h
  refine env_one (i := 2) (d := 151) (k := .val (.bool (decide (((s : Nat) : Int) < ((r : Nat) : Int))))) (step_lt_int (m := ((s : Nat) : Int)) (n := ((r : Nat) : Int)) (by kernel_rfl) (Opd.of_base 149 rfl) (Opd.of_base 150 rfl) rfl rfl) (by kernel_rfl) (by decide) h ?_
  clear h
  intro a w h
  exact hQ a w (h.keep [0, 1, 2, 3, 4, 18, 19, 20, 21, 22, 151])
theorem sy34_region {Q : Exit → Act → World → Prop} (blk cap pc sz lo m hi : Nat) (mid : Nat) (s r : Nat) (h63 : sz ≤ 4611686018427387903) (ham : lo < m) (hmh : m < hi) (hh : hi ≤ sz) (hmid : mid = (lo + hi) / 2) (hs : s ≤ sz) (hr : r ≤ sz) {w0 : World} {a : Act} {w : World} (h : Hold 220 [(0, .val (.slice (some ⟨blk, 0, none⟩) sz cap)), (1, .val (.int .i64 ((lo : Nat) : Int))), (2, .val (.int .i64 ((m : Nat) : Int))), (3, .val (.int .i64 ((hi : Nat) : Int))), (4, .val (sortFn pc)), (18, .val (.int .i64 ((mid : Nat) : Int))), (19, .val (.int .i64 ((mid + m : Nat) : Int))), (20, .val (.int .i64 ((s : Nat) : Int))), (21, .val (.int .i64 ((r : Nat) : Int))), (22, .val (.int .i64 ((mid + m - 1 : Nat) : Int)))] w0 a w)
    (hQ : ∀ a' w', Hold 220 [(0, .val (.slice (some ⟨blk, 0, none⟩) sz cap)), (1, .val (.int .i64 ((lo : Nat) : Int))), (2, .val (.int .i64 ((m : Nat) : Int))), (3, .val (.int .i64 ((hi : Nat) : Int))), (4, .val (sortFn pc)), (18, .val (.int .i64 ((mid : Nat) : Int))), (19, .val (.int .i64 ((mid + m : Nat) : Int))), (20, .val (.int .i64 ((s : Nat) : Int))), (21, .val (.int .i64 ((r : Nat) : Int))), (22, .val (.int .i64 ((mid + m - 1 : Nat) : Int))), (23, .val (.int .i64 (((s + r) / 2 : Nat) : Int)))] w0 a' w' → Q .normal a' w') : (Code.region 34 sy34Ops false).wp Tryd.prog Q a w := by
  refine region_seq (w0 := w) 7 (by kernel_rfl) ?_
  rw [show List.range 7 = [0, 1, 2, 3, 4, 5, 6] from rfl]
  refine env_one (i := 0) (d := 152) (k := .val (.int .i64 ((s : Nat) : Int))) (step_move (by kernel_rfl) (Opd.of_base 20 rfl) rfl) (by kernel_rfl) (by decide) h ?_
  clear h
  intro a w h
  refine env_one (i := 1) (d := 153) (k := .val (.int .i64 ((r : Nat) : Int))) (step_move (by kernel_rfl) (Opd.of_base 21 rfl) rfl) (by kernel_rfl) (by decide) h ?_
  clear h
  intro a w h
  refine env_one (i := 2) (d := 154) (k := .val (.int .i64 ((s + r : Nat) : Int))) (step_add (m := ((s : Nat) : Int)) (n := ((r : Nat) : Int)) (s := ((s + r : Nat) : Int)) (by kernel_rfl) (Opd.of_base 152 rfl) (Opd.of_base 153 rfl) (by rw [IntKind.wrap_i64]; omega) rfl) (by kernel_rfl) (by decide) h ?_
  clear h
  intro a w h
  refine env_one (i := 3) (d := 155) (k := .val (.int .u64 ((s + r : Nat) : Int))) (step_conv_u (n := s + r) (by omega) (by kernel_rfl) (Opd.of_base 154 rfl) rfl) (by kernel_rfl) (by decide) h ?_
  clear h
  intro a w h
  refine env_one (i := 4) (d := 156) (k := .val (.int .u64 (((s + r) / 2 : Nat) : Int))) (step_half (n := s + r) (by omega) (by kernel_rfl) (Opd.of_base 155 rfl) rfl) (by kernel_rfl) (by decide) h ?_
  clear h
  intro a w h
  refine env_one (i := 5) (d := 157) (k := .val (.int .i64 (((s + r) / 2 : Nat) : Int))) (step_conv_i (n := (s + r) / 2) (by omega) (by kernel_rfl) (Opd.of_base 156 rfl) rfl) (by kernel_rfl) (by decide) h ?_
  clear h
  intro a w h
  refine env_one (i := 6) (d := 23) (k := .val (.int .i64 (((s + r) / 2 : Nat) : Int))) (step_assign (by kernel_rfl) (Opd.of_base 157 rfl) rfl) (by kernel_rfl) (by decide) h ?_
  clear h
  intro a w h
  exact hQ a w (h.keep [0, 1, 2, 3, 4, 18, 19, 20, 21, 22, 23])
def sy35Es (W : World) (blk cap pc sz lo m hi mid s r c : Nat) (b : Bool) (F : Fo) (p1 : Pay) (l1 r1 : Fo) (p2 : Pay) (l2 r2 : Fo) : List Kd := [
  .val (sortFn pc),
  .sat (rowAt (some ⟨blk, 0, none⟩) sz cap F),
  .val (.int .i64 ((mid + m - 1 : Nat) : Int)),
  .val (.int .i64 ((c : Nat) : Int)),
  .val (.int .i64 (((mid + m - 1) - c : Nat) : Int)),
  .ptrT p1 l1,
  .term p1 l1,
  .sat (rowAt (some ⟨blk, 0, none⟩) sz cap F),
  .val (.int .i64 ((c : Nat) : Int)),
  .ptrT p2 l2,
  .term p2 l2,
  .val (.int .i64 (Tm.cmpK b (p1, l1) (p2, l2))),
  .val (.bool (decide ((Tm.cmpK b (p1, l1) (p2, l2)) < 0))),
  .val (.bool (!(decide ((Tm.cmpK b (p1, l1) (p2, l2)) < 0))))]
def sy35Ds : List Nat := [158, 159, 160, 161, 162, 163, 164, 165, 166, 167, 168, 169, 170, 171]
def sy35Env (W : World) (blk cap pc sz lo m hi mid s r c : Nat) (b : Bool) (F : Fo) (p1 : Pay) (l1 r1 : Fo) (p2 : Pay) (l2 r2 : Fo) : Env := [(0, .sat (rowAt (some ⟨blk, 0, none⟩) sz cap F)), (1, .val (.int .i64 ((lo : Nat) : Int))), (2, .val (.int .i64 ((m : Nat) : Int))), (3, .val (.int .i64 ((hi : Nat) : Int))), (4, .val (sortFn pc)), (18, .val (.int .i64 ((mid : Nat) : Int))), (19, .val (.int .i64 ((mid + m : Nat) : Int))), (20, .val (.int .i64 ((s : Nat) : Int))), (21, .val (.int .i64 ((r : Nat) : Int))), (22, .val (.int .i64 ((mid + m - 1 : Nat) : Int))), (23, .val (.int .i64 ((c : Nat) : Int))), (998, .sat (onlyP W blk))]
theorem sy35_0 {Q : Exit → Act → World → Prop} (W : World) (blk cap pc sz lo m hi mid s r c : Nat) (b : Bool) (F : Fo) (p1 : Pay) (l1 r1 : Fo) (p2 : Pay) (l2 r2 : Fo) (C : CmpC W blk pc b) (hcn : c ≤ mid + m - 1) (hn : mid + m ≤ 9223372036854775807) (d1 : Tm.dropF F (mid + m - 1 - c) = .node p1 l1 r1) (d2 : Tm.dropF F c = .node p2 l2 r2) (ok1 : OkT b (p1, l1)) (ok2 : OkT b (p2, l2)) : RStep sy35Ops Q (fun i => ((sy35Es W blk cap pc sz lo m hi mid s r c b F p1 l1 r1 p2 l2 r2)[i]?).getD .any) (fun i => (sy35Ds[i]?).getD (1000 + i)) (look (sy35Env W blk cap pc sz lo m hi mid s r c b F p1 l1 r1 p2 l2 r2)) 220 0 := fun _ => step_move (by kernel_rfl) (Opd.of_base 4 rfl) rfl
theorem sy35_1 {Q : Exit → Act → World → Prop} (W : World) (blk cap pc sz lo m hi mid s r c : Nat) (b : Bool) (F : Fo) (p1 : Pay) (l1 r1 : Fo) (p2 : Pay) (l2 r2 : Fo) (C : CmpC W blk pc b) (hcn : c ≤ mid + m - 1) (hn : mid + m ≤ 9223372036854775807) (d1 : Tm.dropF F (mid + m - 1 - c) = .node p1 l1 r1) (d2 : Tm.dropF F c = .node p2 l2 r2) (ok1 : OkT b (p1, l1)) (ok2 : OkT b (p2, l2)) : RStep sy35Ops Q (fun i => ((sy35Es W blk cap pc sz lo m hi mid s r c b F p1 l1 r1 p2 l2 r2)[i]?).getD .any) (fun i => (sy35Ds[i]?).getD (1000 + i)) (look (sy35Env W blk cap pc sz lo m hi mid s r c b F p1 l1 r1 p2 l2 r2)) 220 1 := fun _ => step_move (by kernel_rfl) (Opd.of_base 0 rfl) rfl
theorem sy35_2 {Q : Exit → Act → World → Prop} (W : World) (blk cap pc sz lo m hi mid s r c : Nat) (b : Bool) (F : Fo) (p1 : Pay) (l1 r1 : Fo) (p2 : Pay) (l2 r2 : Fo) (C : CmpC W blk pc b) (hcn : c ≤ mid + m - 1) (hn : mid + m ≤ 9223372036854775807) (d1 : Tm.dropF F (mid + m - 1 - c) = .node p1 l1 r1) (d2 : Tm.dropF F c = .node p2 l2 r2) (ok1 : OkT b (p1, l1)) (ok2 : OkT b (p2, l2)) : RStep sy35Ops Q (fun i => ((sy35Es W blk cap pc sz lo m hi mid s r c b F p1 l1 r1 p2 l2 r2)[i]?).getD .any) (fun i => (sy35Ds[i]?).getD (1000 + i)) (look (sy35Env W blk cap pc sz lo m hi mid s r c b F p1 l1 r1 p2 l2 r2)) 220 2 := fun _ => step_move (by kernel_rfl) (Opd.of_base 22 rfl) rfl
theorem sy35_3 {Q : Exit → Act → World → Prop} (W : World) (blk cap pc sz lo m hi mid s r c : Nat) (b : Bool) (F : Fo) (p1 : Pay) (l1 r1 : Fo) (p2 : Pay) (l2 r2 : Fo) (C : CmpC W blk pc b) (hcn : c ≤ mid + m - 1) (hn : mid + m ≤ 9223372036854775807) (d1 : Tm.dropF F (mid + m - 1 - c) = .node p1 l1 r1) (d2 : Tm.dropF F c = .node p2 l2 r2) (ok1 : OkT b (p1, l1)) (ok2 : OkT b (p2, l2)) : RStep sy35Ops Q (fun i => ((sy35Es W blk cap pc sz lo m hi mid s r c b F p1 l1 r1 p2 l2 r2)[i]?).getD .any) (fun i => (sy35Ds[i]?).getD (1000 + i)) (look (sy35Env W blk cap pc sz lo m hi mid s r c b F p1 l1 r1 p2 l2 r2)) 220 3 := fun _ => step_move (by kernel_rfl) (Opd.of_base 23 rfl) rfl
theorem sy35_4 {Q : Exit → Act → World → Prop} (W : World) (blk cap pc sz lo m hi mid s r c : Nat) (b : Bool) (F : Fo) (p1 : Pay) (l1 r1 : Fo) (p2 : Pay) (l2 r2 : Fo) (C : CmpC W blk pc b) (hcn : c ≤ mid + m - 1) (hn : mid + m ≤ 9223372036854775807) (d1 : Tm.dropF F (mid + m - 1 - c) = .node p1 l1 r1) (d2 : Tm.dropF F c = .node p2 l2 r2) (ok1 : OkT b (p1, l1)) (ok2 : OkT b (p2, l2)) : RStep sy35Ops Q (fun i => ((sy35Es W blk cap pc sz lo m hi mid s r c b F p1 l1 r1 p2 l2 r2)[i]?).getD .any) (fun i => (sy35Ds[i]?).getD (1000 + i)) (look (sy35Env W blk cap pc sz lo m hi mid s r c b F p1 l1 r1 p2 l2 r2)) 220 4 := fun _ => step_sub (m := ((mid + m - 1 : Nat) : Int)) (n := ((c : Nat) : Int)) (s := (((mid + m - 1) - c : Nat) : Int)) (by kernel_rfl) (Opd.dep 2 rfl rfl (by kernel_rfl)) (Opd.dep 3 rfl rfl (by kernel_rfl)) (by rw [IntKind.wrap_i64]; omega) rfl
theorem sy35_5 {Q : Exit → Act → World → Prop} (W : World) (blk cap pc sz lo m hi mid s r c : Nat) (b : Bool) (F : Fo) (p1 : Pay) (l1 r1 : Fo) (p2 : Pay) (l2 r2 : Fo) (C : CmpC W blk pc b) (hcn : c ≤ mid + m - 1) (hn : mid + m ≤ 9223372036854775807) (d1 : Tm.dropF F (mid + m - 1 - c) = .node p1 l1 r1) (d2 : Tm.dropF F c = .node p2 l2 r2) (ok1 : OkT b (p1, l1)) (ok2 : OkT b (p2, l2)) : RStep sy35Ops Q (fun i => ((sy35Es W blk cap pc sz lo m hi mid s r c b F p1 l1 r1 p2 l2 r2)[i]?).getD .any) (fun i => (sy35Ds[i]?).getD (1000 + i)) (look (sy35Env W blk cap pc sz lo m hi mid s r c b F p1 l1 r1 p2 l2 r2)) 220 5 := fun _ => step_rowAt (k := (mid + m - 1) - c) (r := r1) (by kernel_rfl) (Opd.dep 1 rfl rfl (by kernel_rfl)) (Opd.dep 4 rfl rfl (by kernel_rfl)) d1 rfl
theorem sy35_6 {Q : Exit → Act → World → Prop} (W : World) (blk cap pc sz lo m hi mid s r c : Nat) (b : Bool) (F : Fo) (p1 : Pay) (l1 r1 : Fo) (p2 : Pay) (l2 r2 : Fo) (C : CmpC W blk pc b) (hcn : c ≤ mid + m - 1) (hn : mid + m ≤ 9223372036854775807) (d1 : Tm.dropF F (mid + m - 1 - c) = .node p1 l1 r1) (d2 : Tm.dropF F c = .node p2 l2 r2) (ok1 : OkT b (p1, l1)) (ok2 : OkT b (p2, l2)) : RStep sy35Ops Q (fun i => ((sy35Es W blk cap pc sz lo m hi mid s r c b F p1 l1 r1 p2 l2 r2)[i]?).getD .any) (fun i => (sy35Ds[i]?).getD (1000 + i)) (look (sy35Env W blk cap pc sz lo m hi mid s r c b F p1 l1 r1 p2 l2 r2)) 220 6 := fun _ => step_load_term (by kernel_rfl) (Opd.dep 5 rfl rfl (by kernel_rfl)) rfl
theorem sy35_7 {Q : Exit → Act → World → Prop} (W : World) (blk cap pc sz lo m hi mid s r c : Nat) (b : Bool) (F : Fo) (p1 : Pay) (l1 r1 : Fo) (p2 : Pay) (l2 r2 : Fo) (C : CmpC W blk pc b) (hcn : c ≤ mid + m - 1) (hn : mid + m ≤ 9223372036854775807) (d1 : Tm.dropF F (mid + m - 1 - c) = .node p1 l1 r1) (d2 : Tm.dropF F c = .node p2 l2 r2) (ok1 : OkT b (p1, l1)) (ok2 : OkT b (p2, l2)) : RStep sy35Ops Q (fun i => ((sy35Es W blk cap pc sz lo m hi mid s r c b F p1 l1 r1 p2 l2 r2)[i]?).getD .any) (fun i => (sy35Ds[i]?).getD (1000 + i)) (look (sy35Env W blk cap pc sz lo m hi mid s r c b F p1 l1 r1 p2 l2 r2)) 220 7 := fun _ => step_move (by kernel_rfl) (Opd.of_base 0 rfl) rfl
theorem sy35_8 {Q : Exit → Act → World → Prop} (W : World) (blk cap pc sz lo m hi mid s r c : Nat) (b : Bool) (F : Fo) (p1 : Pay) (l1 r1 : Fo) (p2 : Pay) (l2 r2 : Fo) (C : CmpC W blk pc b) (hcn : c ≤ mid + m - 1) (hn : mid + m ≤ 9223372036854775807) (d1 : Tm.dropF F (mid + m - 1 - c) = .node p1 l1 r1) (d2 : Tm.dropF F c = .node p2 l2 r2) (ok1 : OkT b (p1, l1)) (ok2 : OkT b (p2, l2)) : RStep sy35Ops Q (fun i => ((sy35Es W blk cap pc sz lo m hi mid s r c b F p1 l1 r1 p2 l2 r2)[i]?).getD .any) (fun i => (sy35Ds[i]?).getD (1000 + i)) (look (sy35Env W blk cap pc sz lo m hi mid s r c b F p1 l1 r1 p2 l2 r2)) 220 8 := fun _ => step_move (by kernel_rfl) (Opd.of_base 23 rfl) rfl
theorem sy35_9 {Q : Exit → Act → World → Prop} (W : World) (blk cap pc sz lo m hi mid s r c : Nat) (b : Bool) (F : Fo) (p1 : Pay) (l1 r1 : Fo) (p2 : Pay) (l2 r2 : Fo) (C : CmpC W blk pc b) (hcn : c ≤ mid + m - 1) (hn : mid + m ≤ 9223372036854775807) (d1 : Tm.dropF F (mid + m - 1 - c) = .node p1 l1 r1) (d2 : Tm.dropF F c = .node p2 l2 r2) (ok1 : OkT b (p1, l1)) (ok2 : OkT b (p2, l2)) : RStep sy35Ops Q (fun i => ((sy35Es W blk cap pc sz lo m hi mid s r c b F p1 l1 r1 p2 l2 r2)[i]?).getD .any) (fun i => (sy35Ds[i]?).getD (1000 + i)) (look (sy35Env W blk cap pc sz lo m hi mid s r c b F p1 l1 r1 p2 l2 r2)) 220 9 := fun _ => step_rowAt (k := c) (r := r2) (by kernel_rfl) (Opd.dep 7 rfl rfl (by kernel_rfl)) (Opd.dep 8 rfl rfl (by kernel_rfl)) d2 rfl
theorem sy35_10 {Q : Exit → Act → World → Prop} (W : World) (blk cap pc sz lo m hi mid s r c : Nat) (b : Bool) (F : Fo) (p1 : Pay) (l1 r1 : Fo) (p2 : Pay) (l2 r2 : Fo) (C : CmpC W blk pc b) (hcn : c ≤ mid + m - 1) (hn : mid + m ≤ 9223372036854775807) (d1 : Tm.dropF F (mid + m - 1 - c) = .node p1 l1 r1) (d2 : Tm.dropF F c = .node p2 l2 r2) (ok1 : OkT b (p1, l1)) (ok2 : OkT b (p2, l2)) : RStep sy35Ops Q (fun i => ((sy35Es W blk cap pc sz lo m hi mid s r c b F p1 l1 r1 p2 l2 r2)[i]?).getD .any) (fun i => (sy35Ds[i]?).getD (1000 + i)) (look (sy35Env W blk cap pc sz lo m hi mid s r c b F p1 l1 r1 p2 l2 r2)) 220 10 := fun _ => step_load_term (by kernel_rfl) (Opd.dep 9 rfl rfl (by kernel_rfl)) rfl
theorem sy35_11 {Q : Exit → Act → World → Prop} (W : World) (blk cap pc sz lo m hi mid s r c : Nat) (b : Bool) (F : Fo) (p1 : Pay) (l1 r1 : Fo) (p2 : Pay) (l2 r2 : Fo) (C : CmpC W blk pc b) (hcn : c ≤ mid + m - 1) (hn : mid + m ≤ 9223372036854775807) (d1 : Tm.dropF F (mid + m - 1 - c) = .node p1 l1 r1) (d2 : Tm.dropF F c = .node p2 l2 r2) (ok1 : OkT b (p1, l1)) (ok2 : OkT b (p2, l2)) : RStep sy35Ops Q (fun i => ((sy35Es W blk cap pc sz lo m hi mid s r c b F p1 l1 r1 p2 l2 r2)[i]?).getD .any) (fun i => (sy35Ds[i]?).getD (1000 + i)) (look (sy35Env W blk cap pc sz lo m hi mid s r c b F p1 l1 r1 p2 l2 r2)) 220 11 := fun _ => step_sortcall C 998 ok1 ok2 (by kernel_rfl) (Opd.dep 0 rfl rfl (by kernel_rfl)) (Opd.dep 6 rfl rfl (by kernel_rfl)) (Opd.dep 10 rfl rfl (by kernel_rfl)) (Opd.of_base 998 rfl) rfl
theorem sy35_12 {Q : Exit → Act → World → Prop} (W : World) (blk cap pc sz lo m hi mid s r c : Nat) (b : Bool) (F : Fo) (p1 : Pay) (l1 r1 : Fo) (p2 : Pay) (l2 r2 : Fo) (C : CmpC W blk pc b) (hcn : c ≤ mid + m - 1) (hn : mid + m ≤ 9223372036854775807) (d1 : Tm.dropF F (mid + m - 1 - c) = .node p1 l1 r1) (d2 : Tm.dropF F c = .node p2 l2 r2) (ok1 : OkT b (p1, l1)) (ok2 : OkT b (p2, l2)) : RStep sy35Ops Q (fun i => ((sy35Es W blk cap pc sz lo m hi mid s r c b F p1 l1 r1 p2 l2 r2)[i]?).getD .any) (fun i => (sy35Ds[i]?).getD (1000 + i)) (look (sy35Env W blk cap pc sz lo m hi mid s r c b F p1 l1 r1 p2 l2 r2)) 220 12 := fun _ => step_lt_int (m := (Tm.cmpK b (p1, l1) (p2, l2))) (n := 0) (by kernel_rfl) (Opd.dep 11 rfl rfl (by kernel_rfl)) (Opd.const _) rfl rfl
theorem sy35_13 {Q : Exit → Act → World → Prop} (W : World) (blk cap pc sz lo m hi mid s r c : Nat) (b : Bool) (F : Fo) (p1 : Pay) (l1 r1 : Fo) (p2 : Pay) (l2 r2 : Fo) (C : CmpC W blk pc b) (hcn : c ≤ mid + m - 1) (hn : mid + m ≤ 9223372036854775807) (d1 : Tm.dropF F (mid + m - 1 - c) = .node p1 l1 r1) (d2 : Tm.dropF F c = .node p2 l2 r2) (ok1 : OkT b (p1, l1)) (ok2 : OkT b (p2, l2)) : RStep sy35Ops Q (fun i => ((sy35Es W blk cap pc sz lo m hi mid s r c b F p1 l1 r1 p2 l2 r2)[i]?).getD .any) (fun i => (sy35Ds[i]?).getD (1000 + i)) (look (sy35Env W blk cap pc sz lo m hi mid s r c b F p1 l1 r1 p2 l2 r2)) 220 13 := fun _ => step_not (by kernel_rfl) (Opd.dep 12 rfl rfl (by kernel_rfl)) rfl
theorem sy35_region {Q : Exit → Act → World → Prop} (W : World) (blk cap pc sz lo m hi mid s r c : Nat) (b : Bool) (F : Fo) (p1 : Pay) (l1 r1 : Fo) (p2 : Pay) (l2 r2 : Fo) (C : CmpC W blk pc b) (hcn : c ≤ mid + m - 1) (hn : mid + m ≤ 9223372036854775807) (d1 : Tm.dropF F (mid + m - 1 - c) = .node p1 l1 r1) (d2 : Tm.dropF F c = .node p2 l2 r2) (ok1 : OkT b (p1, l1)) (ok2 : OkT b (p2, l2)) {w0 : World} {a : Act} {w : World} (h : Hold 220 [(0, .sat (rowAt (some ⟨blk, 0, none⟩) sz cap F)), (1, .val (.int .i64 ((lo : Nat) : Int))), (2, .val (.int .i64 ((m : Nat) : Int))), (3, .val (.int .i64 ((hi : Nat) : Int))), (4, .val (sortFn pc)), (18, .val (.int .i64 ((mid : Nat) : Int))), (19, .val (.int .i64 ((mid + m : Nat) : Int))), (20, .val (.int .i64 ((s : Nat) : Int))), (21, .val (.int .i64 ((r : Nat) : Int))), (22, .val (.int .i64 ((mid + m - 1 : Nat) : Int))), (23, .val (.int .i64 ((c : Nat) : Int))), (998, .sat (onlyP W blk))] w0 a w)
    (hQ : ∀ a' w', Hold 220 [(0, .sat (rowAt (some ⟨blk, 0, none⟩) sz cap F)), (1, .val (.int .i64 ((lo : Nat) : Int))), (2, .val (.int .i64 ((m : Nat) : Int))), (3, .val (.int .i64 ((hi : Nat) : Int))), (4, .val (sortFn pc)), (18, .val (.int .i64 ((mid : Nat) : Int))), (19, .val (.int .i64 ((mid + m : Nat) : Int))), (20, .val (.int .i64 ((s : Nat) : Int))), (21, .val (.int .i64 ((r : Nat) : Int))), (22, .val (.int .i64 ((mid + m - 1 : Nat) : Int))), (23, .val (.int .i64 ((c : Nat) : Int))), (171, .val (.bool (!(decide ((Tm.cmpK b (p1, l1) (p2, l2)) < 0)))))] w0 a' w' → Q .normal a' w') : (Code.region 35 sy35Ops true).wp Tryd.prog Q a w := by
  have hall : ∀ i, i < 0 → RStep sy35Ops Q (fun i => ((sy35Es W blk cap pc sz lo m hi mid s r c b F p1 l1 r1 p2 l2 r2)[i]?).getD .any) (fun i => (sy35Ds[i]?).getD (1000 + i)) (look (sy35Env W blk cap pc sz lo m hi mid s r c b F p1 l1 r1 p2 l2 r2)) 220 i := fun i hi => absurd hi (by omega)
  have hall := below_succ hall (sy35_0 W blk cap pc sz lo m hi mid s r c b F p1 l1 r1 p2 l2 r2 C hcn hn d1 d2 ok1 ok2)
  have hall := below_succ hall (sy35_1 W blk cap pc sz lo m hi mid s r c b F p1 l1 r1 p2 l2 r2 C hcn hn d1 d2 ok1 ok2)
  have hall := below_succ hall (sy35_2 W blk cap pc sz lo m hi mid s r c b F p1 l1 r1 p2 l2 r2 C hcn hn d1 d2 ok1 ok2)
  have hall := below_succ hall (sy35_3 W blk cap pc sz lo m hi mid s r c b F p1 l1 r1 p2 l2 r2 C hcn hn d1 d2 ok1 ok2)
  have hall := below_succ hall (sy35_4 W blk cap pc sz lo m hi mid s r c b F p1 l1 r1 p2 l2 r2 C hcn hn d1 d2 ok1 ok2)
  have hall := below_succ hall (sy35_5 W blk cap pc sz lo m hi mid s r c b F p1 l1 r1 p2 l2 r2 C hcn hn d1 d2 ok1 ok2)
  have hall := below_succ hall (sy35_6 W blk cap pc sz lo m hi mid s r c b F p1 l1 r1 p2 l2 r2 C hcn hn d1 d2 ok1 ok2)
  have hall := below_succ hall (sy35_7 W blk cap pc sz lo m hi mid s r c b F p1 l1 r1 p2 l2 r2 C hcn hn d1 d2 ok1 ok2)
  have hall := below_succ hall (sy35_8 W blk cap pc sz lo m hi mid s r c b F p1 l1 r1 p2 l2 r2 C hcn hn d1 d2 ok1 ok2)
  have hall := below_succ hall (sy35_9 W blk cap pc sz lo m hi mid s r c b F p1 l1 r1 p2 l2 r2 C hcn hn d1 d2 ok1 ok2)
  have hall := below_succ hall (sy35_10 W blk cap pc sz lo m hi mid s r c b F p1 l1 r1 p2 l2 r2 C hcn hn d1 d2 ok1 ok2)
  have hall := below_succ hall (sy35_11 W blk cap pc sz lo m hi mid s r c b F p1 l1 r1 p2 l2 r2 C hcn hn d1 d2 ok1 ok2)
  have hall := below_succ hall (sy35_12 W blk cap pc sz lo m hi mid s r c b F p1 l1 r1 p2 l2 r2 C hcn hn d1 d2 ok1 ok2)
  have hall := below_succ hall (sy35_13 W blk cap pc sz lo m hi mid s r c b F p1 l1 r1 p2 l2 r2 C hcn hn d1 d2 ok1 ok2)
  refine env_any (env := sy35Env W blk cap pc sz lo m hi mid s r c b F p1 l1 r1 p2 l2 r2) (N := 220) (w0 := w0) sy35Ds (sy35Es W blk cap pc sz lo m hi mid s r c b F p1 l1 r1 p2 l2 r2) (by kernel_rfl) (by kernel_rfl) (of_decide_eq_true (by kernel_rfl)) (fun i_ hi_ => hall i_ (by rw [show (sy35Es W blk cap pc sz lo m hi mid s r c b F p1 l1 r1 p2 l2 r2).length = 14 by kernel_rfl] at hi_; exact hi_)) h fun a' w' h => ?_
  exact hQ a' w' (h.keep [0, 1, 2, 3, 4, 18, 19, 20, 21, 22, 23, 171])
theorem sy36_region {Q : Exit → Act → World → Prop} (blk cap pc sz lo m hi : Nat) (mid : Nat) (s r : Nat) (c : Nat) (h63 : sz ≤ 4611686018427387903) (ham : lo < m) (hmh : m < hi) (hh : hi ≤ sz) (hmid : mid = (lo + hi) / 2) (hc : c < sz) {w0 : World} {a : Act} {w : World} (h : Hold 220 [(0, .val (.slice (some ⟨blk, 0, none⟩) sz cap)), (1, .val (.int .i64 ((lo : Nat) : Int))), (2, .val (.int .i64 ((m : Nat) : Int))), (3, .val (.int .i64 ((hi : Nat) : Int))), (4, .val (sortFn pc)), (18, .val (.int .i64 ((mid : Nat) : Int))), (19, .val (.int .i64 ((mid + m : Nat) : Int))), (20, .val (.int .i64 ((s : Nat) : Int))), (21, .val (.int .i64 ((r : Nat) : Int))), (22, .val (.int .i64 ((mid + m - 1 : Nat) : Int))), (23, .val (.int .i64 ((c : Nat) : Int)))] w0 a w)
    (hQ : ∀ a' w', Hold 220 [(0, .val (.slice (some ⟨blk, 0, none⟩) sz cap)), (1, .val (.int .i64 ((lo : Nat) : Int))), (2, .val (.int .i64 ((m : Nat) : Int))), (3, .val (.int .i64 ((hi : Nat) : Int))), (4, .val (sortFn pc)), (18, .val (.int .i64 ((mid : Nat) : Int))), (19, .val (.int .i64 ((mid + m : Nat) : Int))), (20, .val (.int .i64 ((c + 1 : Nat) : Int))), (21, .val (.int .i64 ((r : Nat) : Int))), (22, .val (.int .i64 ((mid + m - 1 : Nat) : Int)))] w0 a' w' → Q .normal a' w') : (Code.region 36 sy36Ops false).wp Tryd.prog Q a w := by
  refine region_seq (w0 := w) 3 (by kernel_rfl) ?_
  rw [show List.range 3 = [0, 1, 2] from rfl]
  refine env_one (i := 0) (d := 172) (k := .val (.int .i64 ((c : Nat) : Int))) (step_move (by kernel_rfl) (Opd.of_base 23 rfl) rfl) (by kernel_rfl) (by decide) h ?_
  clear h
  intro a w h
  refine env_one (i := 1) (d := 173) (k := .val (.int .i64 ((c + 1 : Nat) : Int))) (step_add (m := ((c : Nat) : Int)) (n := 1) (s := ((c + 1 : Nat) : Int)) (by kernel_rfl) (Opd.of_base 172 rfl) (Opd.const _) (by rw [IntKind.wrap_i64]; omega) rfl) (by kernel_rfl) (by decide) h ?_
  clear h
  intro a w h
  refine env_one (i := 2) (d := 20) (k := .val (.int .i64 ((c + 1 : Nat) : Int))) (step_assign (by kernel_rfl) (Opd.of_base 173 rfl) rfl) (by kernel_rfl) (by decide) h ?_
  clear h
  intro a w h
  exact hQ a w (h.keep [0, 1, 2, 3, 4, 18, 19, 20, 21, 22])
theorem sy37_region {Q : Exit → Act → World → Prop} (blk cap pc sz lo m hi : Nat) (mid : Nat) (s r : Nat) (c : Nat) (h63 : sz ≤ 4611686018427387903) (ham : lo < m) (hmh : m < hi) (hh : hi ≤ sz) (hmid : mid = (lo + hi) / 2) {w0 : World} {a : Act} {w : World} (h : Hold 220 [(0, .val (.slice (some ⟨blk, 0, none⟩) sz cap)), (1, .val (.int .i64 ((lo : Nat) : Int))), (2, .val (.int .i64 ((m : Nat) : Int))), (3, .val (.int .i64 ((hi : Nat) : Int))), (4, .val (sortFn pc)), (18, .val (.int .i64 ((mid : Nat) : Int))), (19, .val (.int .i64 ((mid + m : Nat) : Int))), (20, .val (.int .i64 ((s : Nat) : Int))), (21, .val (.int .i64 ((r : Nat) : Int))), (22, .val (.int .i64 ((mid + m - 1 : Nat) : Int))), (23, .val (.int .i64 ((c : Nat) : Int)))] w0 a w)
    (hQ : ∀ a' w', Hold 220 [(0, .val (.slice (some ⟨blk, 0, none⟩) sz cap)), (1, .val (.int .i64 ((lo : Nat) : Int))), (2, .val (.int .i64 ((m : Nat) : Int))), (3, .val (.int .i64 ((hi : Nat) : Int))), (4, .val (sortFn pc)), (18, .val (.int .i64 ((mid : Nat) : Int))), (19, .val (.int .i64 ((mid + m : Nat) : Int))), (20, .val (.int .i64 ((s : Nat) : Int))), (21, .val (.int .i64 ((c : Nat) : Int))), (22, .val (.int .i64 ((mid + m - 1 : Nat) : Int)))] w0 a' w' → Q .normal a' w') : (Code.region 37 sy37Ops false).wp Tryd.prog Q a w := by
  refine region_seq (w0 := w) 2 (by kernel_rfl) ?_
  rw [show List.range 2 = [0, 1] from rfl]
  refine env_one (i := 0) (d := 174) (k := .val (.int .i64 ((c : Nat) : Int))) (step_move (by kernel_rfl) (Opd.of_base 23 rfl) rfl) (by kernel_rfl) (by decide) h ?_
  clear h
  intro a w h
  refine env_one (i := 1) (d := 21) (k := .val (.int .i64 ((c : Nat) : Int))) (step_assign (by kernel_rfl) (Opd.of_base 174 rfl) rfl) (by kernel_rfl) (by decide) h ?_
  clear h
  intro a w h
  exact hQ a w (h.keep [0, 1, 2, 3, 4, 18, 19, 20, 21, 22])
theorem sy38_region {Q : Exit → Act → World → Prop} (blk cap pc sz lo m hi : Nat) (mid : Nat) (s : Nat) (h63 : sz ≤ 4611686018427387903) (ham : lo < m) (hmh : m < hi) (hh : hi ≤ sz) (hmid : mid = (lo + hi) / 2) (hs : s ≤ mid + m) {w0 : World} {a : Act} {w : World} (h : Hold 220 [(0, .val (.slice (some ⟨blk, 0, none⟩) sz cap)), (1, .val (.int .i64 ((lo : Nat) : Int))), (2, .val (.int .i64 ((m : Nat) : Int))), (3, .val (.int .i64 ((hi : Nat) : Int))), (4, .val (sortFn pc)), (18, .val (.int .i64 ((mid : Nat) : Int))), (19, .val (.int .i64 ((mid + m : Nat) : Int))), (20, .val (.int .i64 ((s : Nat) : Int)))] w0 a w)
    (hQ : ∀ a' w', Hold 220 [(0, .val (.slice (some ⟨blk, 0, none⟩) sz cap)), (1, .val (.int .i64 ((lo : Nat) : Int))), (2, .val (.int .i64 ((m : Nat) : Int))), (3, .val (.int .i64 ((hi : Nat) : Int))), (4, .val (sortFn pc)), (18, .val (.int .i64 ((mid : Nat) : Int))), (19, .val (.int .i64 ((mid + m : Nat) : Int))), (20, .val (.int .i64 ((s : Nat) : Int))), (24, .val (.int .i64 (((mid + m) - s : Nat) : Int)))] w0 a' w' → Q .normal a' w') : (Code.region 38 sy38Ops false).wp Tryd.prog Q a w := by
  refine region_seq (w0 := w) 4 (by kernel_rfl) ?_
  rw [show List.range 4 = [0, 1, 2, 3] from rfl]
  refine env_one (i := 0) (d := 175) (k := .val (.int .i64 ((mid + m : Nat) : Int))) (step_move (by kernel_rfl) (Opd.of_base 19 rfl) rfl) (by kernel_rfl) (by decide) h ?_
  clear h
  intro a w h
  refine env_one (i := 1) (d := 176) (k := .val (.int .i64 ((s : Nat) : Int))) (step_move (by kernel_rfl) (Opd.of_base 20 rfl) rfl) (by kernel_rfl) (by decide) h ?_
  clear h
  intro a w h
  refine env_one (i := 2) (d := 177) (k := .val (.int .i64 (((mid + m) - s : Nat) : Int))) (step_sub (m := ((mid + m : Nat) : Int)) (n := ((s : Nat) : Int)) (s := (((mid + m) - s : Nat) : Int)) (by kernel_rfl) (Opd.of_base 175 rfl) (Opd.of_base 176 rfl) (by rw [IntKind.wrap_i64]; omega) rfl) (by kernel_rfl) (by decide) h ?_
  clear h
  intro a w h
  refine env_one (i := 3) (d := 24) (k := .val (.int .i64 (((mid + m) - s : Nat) : Int))) (step_assign (by kernel_rfl) (Opd.of_base 177 rfl) rfl) (by kernel_rfl) (by decide) h ?_
  clear h
  intro a w h
  exact hQ a w (h.keep [0, 1, 2, 3, 4, 18, 19, 20, 24])
theorem sy39n_region {Q : Exit → Act → World → Prop} (blk cap pc sz lo m hi : Nat) (mid : Nat) (s e : Nat) (h1 : ¬ s < m) {w0 : World} {a : Act} {w : World} (h : Hold 220 [(0, .val (.slice (some ⟨blk, 0, none⟩) sz cap)), (1, .val (.int .i64 ((lo : Nat) : Int))), (2, .val (.int .i64 ((m : Nat) : Int))), (3, .val (.int .i64 ((hi : Nat) : Int))), (4, .val (sortFn pc)), (18, .val (.int .i64 ((mid : Nat) : Int))), (20, .val (.int .i64 ((s : Nat) : Int))), (24, .val (.int .i64 ((e : Nat) : Int)))] w0 a w)
    (hQ : ∀ a' w', Hold 220 [(0, .val (.slice (some ⟨blk, 0, none⟩) sz cap)), (1, .val (.int .i64 ((lo : Nat) : Int))), (2, .val (.int .i64 ((m : Nat) : Int))), (3, .val (.int .i64 ((hi : Nat) : Int))), (4, .val (sortFn pc)), (18, .val (.int .i64 ((mid : Nat) : Int))), (20, .val (.int .i64 ((s : Nat) : Int))), (24, .val (.int .i64 ((e : Nat) : Int))), (185, .val (.bool false))] w0 a' w' → Q .normal a' w') : (Code.region 39 sy39Ops false).wp Tryd.prog Q a w := by
  refine region_seq (w0 := w) 8 (by kernel_rfl) ?_
  rw [show List.range 8 = [0, 1, 2, 3, 4, 5, 6, 7] from rfl]
  refine env_one (i := 0) (d := 178) (k := .val (.int .i64 ((s : Nat) : Int))) (step_move (by kernel_rfl) (Opd.of_base 20 rfl) rfl) (by kernel_rfl) (by decide) h ?_
  clear h
  intro a w h
  refine env_one (i := 1) (d := 179) (k := .val (.int .i64 ((m : Nat) : Int))) (step_move (by kernel_rfl) (Opd.of_base 2 rfl) rfl) (by kernel_rfl) (by decide) h ?_
  clear h
  intro a w h
  refine env_one (i := 2) (d := 180) (k := .val (.bool false)) (step_lt_int (m := ((s : Nat) : Int)) (n := ((m : Nat) : Int)) (by kernel_rfl) (Opd.of_base 178 rfl) (Opd.of_base 179 rfl) (decide_eq_false (by omega)) rfl) (by kernel_rfl) (by decide) h ?_
  clear h
  intro a w h
  refine env_one (i := 3) (d := 181) (k := .val (.bool false)) (step_move (by kernel_rfl) (Opd.of_base 180 rfl) rfl) (by kernel_rfl) (by decide) h ?_
  clear h
  intro a w h
  refine env_skip (i := 4) (d := 182) (g := 3) (dg := 181) (b := true) (by kernel_rfl) (by decide) (by kernel_rfl) rfl rfl h ?_
  clear h
  intro a w h
  refine env_skip (i := 5) (d := 183) (g := 3) (dg := 181) (b := true) (by kernel_rfl) (by decide) (by kernel_rfl) rfl rfl h ?_
  clear h
  intro a w h
  refine env_skip (i := 6) (d := 184) (g := 3) (dg := 181) (b := true) (by kernel_rfl) (by decide) (by kernel_rfl) rfl rfl h ?_
  clear h
  intro a w h
  refine env_one (i := 7) (d := 185) (k := .val (.bool false)) (step_pick_no (x := .tmp 184) (by kernel_rfl) (Opd.of_base 181 rfl) (Opd.const _) rfl) (by kernel_rfl) (by decide) h ?_
  clear h
  intro a w h
  exact hQ a w (h.keep [0, 1, 2, 3, 4, 18, 20, 24, 185])
theorem sy39f_region {Q : Exit → Act → World → Prop} (blk cap pc sz lo m hi : Nat) (mid : Nat) (s e : Nat) (h1 : s < m) (h2 : ¬ m < e) {w0 : World} {a : Act} {w : World} (h : Hold 220 [(0, .val (.slice (some ⟨blk, 0, none⟩) sz cap)), (1, .val (.int .i64 ((lo : Nat) : Int))), (2, .val (.int .i64 ((m : Nat) : Int))), (3, .val (.int .i64 ((hi : Nat) : Int))), (4, .val (sortFn pc)), (18, .val (.int .i64 ((mid : Nat) : Int))), (20, .val (.int .i64 ((s : Nat) : Int))), (24, .val (.int .i64 ((e : Nat) : Int)))] w0 a w)
    (hQ : ∀ a' w', Hold 220 [(0, .val (.slice (some ⟨blk, 0, none⟩) sz cap)), (1, .val (.int .i64 ((lo : Nat) : Int))), (2, .val (.int .i64 ((m : Nat) : Int))), (3, .val (.int .i64 ((hi : Nat) : Int))), (4, .val (sortFn pc)), (18, .val (.int .i64 ((mid : Nat) : Int))), (20, .val (.int .i64 ((s : Nat) : Int))), (24, .val (.int .i64 ((e : Nat) : Int))), (185, .val (.bool false))] w0 a' w' → Q .normal a' w') : (Code.region 39 sy39Ops false).wp Tryd.prog Q a w := by
  refine region_seq (w0 := w) 8 (by kernel_rfl) ?_
  rw [show List.range 8 = [0, 1, 2, 3, 4, 5, 6, 7] from rfl]
  refine env_one (i := 0) (d := 178) (k := .val (.int .i64 ((s : Nat) : Int))) (step_move (by kernel_rfl) (Opd.of_base 20 rfl) rfl) (by kernel_rfl) (by decide) h ?_
  clear h
  intro a w h
  refine env_one (i := 1) (d := 179) (k := .val (.int .i64 ((m : Nat) : Int))) (step_move (by kernel_rfl) (Opd.of_base 2 rfl) rfl) (by kernel_rfl) (by decide) h ?_
  clear h
  intro a w h
  refine env_one (i := 2) (d := 180) (k := .val (.bool true)) (step_lt_int (m := ((s : Nat) : Int)) (n := ((m : Nat) : Int)) (by kernel_rfl) (Opd.of_base 178 rfl) (Opd.of_base 179 rfl) (decide_eq_true (by omega)) rfl) (by kernel_rfl) (by decide) h ?_
  clear h
  intro a w h
  refine env_one (i := 3) (d := 181) (k := .val (.bool true)) (step_move (by kernel_rfl) (Opd.of_base 180 rfl) rfl) (by kernel_rfl) (by decide) h ?_
  clear h
  intro a w h
  refine env_guard (i := 4) (d := 182) (g := 3) (dg := 181) (b := true) (k := .val (.int .i64 ((m : Nat) : Int))) (step_move (by kernel_rfl) (Opd.of_base 2 rfl) rfl) (by kernel_rfl) (by decide) (by kernel_rfl) (by decide) rfl h ?_
  clear h
  intro a w h
  refine env_guard (i := 5) (d := 183) (g := 3) (dg := 181) (b := true) (k := .val (.int .i64 ((e : Nat) : Int))) (step_move (by kernel_rfl) (Opd.of_base 24 rfl) rfl) (by kernel_rfl) (by decide) (by kernel_rfl) (by decide) rfl h ?_
  clear h
  intro a w h
  refine env_guard (i := 6) (d := 184) (g := 3) (dg := 181) (b := true) (k := .val (.bool false)) (step_lt_int (m := ((m : Nat) : Int)) (n := ((e : Nat) : Int)) (by kernel_rfl) (Opd.of_base 182 rfl) (Opd.of_base 183 rfl) (decide_eq_false (by omega)) rfl) (by kernel_rfl) (by decide) (by kernel_rfl) (by decide) rfl h ?_
  clear h
  intro a w h
  refine env_one (i := 7) (d := 185) (k := .val (.bool false)) (step_pick_yes (y := .const (.bool false)) (by kernel_rfl) (Opd.of_base 181 rfl) (Opd.of_base 184 rfl) rfl) (by kernel_rfl) (by decide) h ?_
  clear h
  intro a w h
  exact hQ a w (h.keep [0, 1, 2, 3, 4, 18, 20, 24, 185])
theorem sy39y_region {Q : Exit → Act → World → Prop} (blk cap pc sz lo m hi : Nat) (mid : Nat) (s e : Nat) (h1 : s < m) (h2 : m < e) {w0 : World} {a : Act} {w : World} (h : Hold 220 [(0, .val (.slice (some ⟨blk, 0, none⟩) sz cap)), (1, .val (.int .i64 ((lo : Nat) : Int))), (2, .val (.int .i64 ((m : Nat) : Int))), (3, .val (.int .i64 ((hi : Nat) : Int))), (4, .val (sortFn pc)), (18, .val (.int .i64 ((mid : Nat) : Int))), (20, .val (.int .i64 ((s : Nat) : Int))), (24, .val (.int .i64 ((e : Nat) : Int)))] w0 a w)
    (hQ : ∀ a' w', Hold 220 [(0, .val (.slice (some ⟨blk, 0, none⟩) sz cap)), (1, .val (.int .i64 ((lo : Nat) : Int))), (2, .val (.int .i64 ((m : Nat) : Int))), (3, .val (.int .i64 ((hi : Nat) : Int))), (4, .val (sortFn pc)), (18, .val (.int .i64 ((mid : Nat) : Int))), (20, .val (.int .i64 ((s : Nat) : Int))), (24, .val (.int .i64 ((e : Nat) : Int))), (185, .val (.bool true))] w0 a' w' → Q .normal a' w') : (Code.region 39 sy39Ops false).wp Tryd.prog Q a w := by
  refine region_seq (w0 := w) 8 (by kernel_rfl) ?_
  rw [show List.range 8 = [0, 1, 2, 3, 4, 5, 6, 7] from rfl]
  refine env_one (i := 0) (d := 178) (k := .val (.int .i64 ((s : Nat) : Int))) (step_move (by kernel_rfl) (Opd.of_base 20 rfl) rfl) (by kernel_rfl) (by decide) h ?_
  clear h
  intro a w h
  refine env_one (i := 1) (d := 179) (k := .val (.int .i64 ((m : Nat) : Int))) (step_move (by kernel_rfl) (Opd.of_base 2 rfl) rfl) (by kernel_rfl) (by decide) h ?_
  clear h
  intro a w h
  refine env_one (i := 2) (d := 180) (k := .val (.bool true)) (step_lt_int (m := ((s : Nat) : Int)) (n := ((m : Nat) : Int)) (by kernel_rfl) (Opd.of_base 178 rfl) (Opd.of_base 179 rfl) (decide_eq_true (by omega)) rfl) (by kernel_rfl) (by decide) h ?_
  clear h
  intro a w h
  refine env_one (i := 3) (d := 181) (k := .val (.bool true)) (step_move (by kernel_rfl) (Opd.of_base 180 rfl) rfl) (by kernel_rfl) (by decide) h ?_
  clear h
  intro a w h
  refine env_guard (i := 4) (d := 182) (g := 3) (dg := 181) (b := true) (k := .val (.int .i64 ((m : Nat) : Int))) (step_move (by kernel_rfl) (Opd.of_base 2 rfl) rfl) (by kernel_rfl) (by decide) (by kernel_rfl) (by decide) rfl h ?_
  clear h
  intro a w h
  refine env_guard (i := 5) (d := 183) (g := 3) (dg := 181) (b := true) (k := .val (.int .i64 ((e : Nat) : Int))) (step_move (by kernel_rfl) (Opd.of_base 24 rfl) rfl) (by kernel_rfl) (by decide) (by kernel_rfl) (by decide) rfl h ?_
  clear h
  intro a w h
  refine env_guard (i := 6) (d := 184) (g := 3) (dg := 181) (b := true) (k := .val (.bool true)) (step_lt_int (m := ((m : Nat) : Int)) (n := ((e : Nat) : Int)) (by kernel_rfl) (Opd.of_base 182 rfl) (Opd.of_base 183 rfl) (decide_eq_true (by omega)) rfl) (by kernel_rfl) (by decide) (by kernel_rfl) (by decide) rfl h ?_
  clear h
  intro a w h
  refine env_one (i := 7) (d := 185) (k := .val (.bool true)) (step_pick_yes (y := .const (.bool false)) (by kernel_rfl) (Opd.of_base 181 rfl) (Opd.of_base 184 rfl) rfl) (by kernel_rfl) (by decide) h ?_
  clear h
  intro a w h
  exact hQ a w (h.keep [0, 1, 2, 3, 4, 18, 20, 24, 185])
theorem sy41n_region {Q : Exit → Act → World → Prop} (blk cap pc sz lo m hi : Nat) (mid : Nat) (s e : Nat) (h1 : ¬ lo < s) {w0 : World} {a : Act} {w : World} (h : Hold 220 [(0, .val (.slice (some ⟨blk, 0, none⟩) sz cap)), (1, .val (.int .i64 ((lo : Nat) : Int))), (2, .val (.int .i64 ((m : Nat) : Int))), (3, .val (.int .i64 ((hi : Nat) : Int))), (4, .val (sortFn pc)), (18, .val (.int .i64 ((mid : Nat) : Int))), (20, .val (.int .i64 ((s : Nat) : Int))), (24, .val (.int .i64 ((e : Nat) : Int)))] w0 a w)
    (hQ : ∀ a' w', Hold 220 [(0, .val (.slice (some ⟨blk, 0, none⟩) sz cap)), (1, .val (.int .i64 ((lo : Nat) : Int))), (2, .val (.int .i64 ((m : Nat) : Int))), (3, .val (.int .i64 ((hi : Nat) : Int))), (4, .val (sortFn pc)), (18, .val (.int .i64 ((mid : Nat) : Int))), (20, .val (.int .i64 ((s : Nat) : Int))), (24, .val (.int .i64 ((e : Nat) : Int))), (199, .val (.bool false))] w0 a' w' → Q .normal a' w') : (Code.region 41 sy41Ops false).wp Tryd.prog Q a w := by
  refine region_seq (w0 := w) 8 (by kernel_rfl) ?_
  rw [show List.range 8 = [0, 1, 2, 3, 4, 5, 6, 7] from rfl]
  refine env_one (i := 0) (d := 192) (k := .val (.int .i64 ((lo : Nat) : Int))) (step_move (by kernel_rfl) (Opd.of_base 1 rfl) rfl) (by kernel_rfl) (by decide) h ?_
  clear h
  intro a w h
  refine env_one (i := 1) (d := 193) (k := .val (.int .i64 ((s : Nat) : Int))) (step_move (by kernel_rfl) (Opd.of_base 20 rfl) rfl) (by kernel_rfl) (by decide) h ?_
  clear h
  intro a w h
  refine env_one (i := 2) (d := 194) (k := .val (.bool false)) (step_lt_int (m := ((lo : Nat) : Int)) (n := ((s : Nat) : Int)) (by kernel_rfl) (Opd.of_base 192 rfl) (Opd.of_base 193 rfl) (decide_eq_false (by omega)) rfl) (by kernel_rfl) (by decide) h ?_
  clear h
  intro a w h
  refine env_one (i := 3) (d := 195) (k := .val (.bool false)) (step_move (by kernel_rfl) (Opd.of_base 194 rfl) rfl) (by kernel_rfl) (by decide) h ?_
  clear h
  intro a w h
  refine env_skip (i := 4) (d := 196) (g := 3) (dg := 195) (b := true) (by kernel_rfl) (by decide) (by kernel_rfl) rfl rfl h ?_
  clear h
  intro a w h
  refine env_skip (i := 5) (d := 197) (g := 3) (dg := 195) (b := true) (by kernel_rfl) (by decide) (by kernel_rfl) rfl rfl h ?_
  clear h
  intro a w h
  refine env_skip (i := 6) (d := 198) (g := 3) (dg := 195) (b := true) (by kernel_rfl) (by decide) (by kernel_rfl) rfl rfl h ?_
  clear h
  intro a w h
  refine env_one (i := 7) (d := 199) (k := .val (.bool false)) (step_pick_no (x := .tmp 198) (by kernel_rfl) (Opd.of_base 195 rfl) (Opd.const _) rfl) (by kernel_rfl) (by decide) h ?_
  clear h
  intro a w h
  exact hQ a w (h.keep [0, 1, 2, 3, 4, 18, 20, 24, 199])
theorem sy41f_region {Q : Exit → Act → World → Prop} (blk cap pc sz lo m hi : Nat) (mid : Nat) (s e : Nat) (h1 : lo < s) (h2 : ¬ s < mid) {w0 : World} {a : Act} {w : World} (h : Hold 220 [(0, .val (.slice (some ⟨blk, 0, none⟩) sz cap)), (1, .val (.int .i64 ((lo : Nat) : Int))), (2, .val (.int .i64 ((m : Nat) : Int))), (3, .val (.int .i64 ((hi : Nat) : Int))), (4, .val (sortFn pc)), (18, .val (.int .i64 ((mid : Nat) : Int))), (20, .val (.int .i64 ((s : Nat) : Int))), (24, .val (.int .i64 ((e : Nat) : Int)))] w0 a w)
    (hQ : ∀ a' w', Hold 220 [(0, .val (.slice (some ⟨blk, 0, none⟩) sz cap)), (1, .val (.int .i64 ((lo : Nat) : Int))), (2, .val (.int .i64 ((m : Nat) : Int))), (3, .val (.int .i64 ((hi : Nat) : Int))), (4, .val (sortFn pc)), (18, .val (.int .i64 ((mid : Nat) : Int))), (20, .val (.int .i64 ((s : Nat) : Int))), (24, .val (.int .i64 ((e : Nat) : Int))), (199, .val (.bool false))] w0 a' w' → Q .normal a' w') : (Code.region 41 sy41Ops false).wp Tryd.prog Q a w := by
  refine region_seq (w0 := w) 8 (by kernel_rfl) ?_
  rw [show List.range 8 = [0, 1, 2, 3, 4, 5, 6, 7] from rfl]
  refine env_one (i := 0) (d := 192) (k := .val (.int .i64 ((lo : Nat) : Int))) (step_move (by kernel_rfl) (Opd.of_base 1 rfl) rfl) (by kernel_rfl) (by decide) h ?_
  clear h
  intro a w h
  refine env_one (i := 1) (d := 193) (k := .val (.int .i64 ((s : Nat) : Int))) (step_move (by kernel_rfl) (Opd.of_base 20 rfl) rfl) (by kernel_rfl) (by decide) h ?_
  clear h
  intro a w h
  refine env_one (i := 2) (d := 194) (k := .val (.bool true)) (step_lt_int (m := ((lo : Nat) : Int)) (n := ((s : Nat) : Int)) (by kernel_rfl) (Opd.of_base 192 rfl) (Opd.of_base 193 rfl) (decide_eq_true (by omega)) rfl) (by kernel_rfl) (by decide) h ?_
  clear h
  intro a w h
  refine env_one (i := 3) (d := 195) (k := .val (.bool true)) (step_move (by kernel_rfl) (Opd.of_base 194 rfl) rfl) (by kernel_rfl) (by decide) h ?_
  clear h
  intro a w h
  refine env_guard (i := 4) (d := 196) (g := 3) (dg := 195) (b := true) (k := .val (.int .i64 ((s : Nat) : Int))) (step_move (by kernel_rfl) (Opd.of_base 20 rfl) rfl) (by kernel_rfl) (by decide) (by kernel_rfl) (by decide) rfl h ?_
  clear h
  intro a w h
  refine env_guard (i := 5) (d := 197) (g := 3) (dg := 195) (b := true) (k := .val (.int .i64 ((mid : Nat) : Int))) (step_move (by kernel_rfl) (Opd.of_base 18 rfl) rfl) (by kernel_rfl) (by decide) (by kernel_rfl) (by decide) rfl h ?_
  clear h
  intro a w h
  refine env_guard (i := 6) (d := 198) (g := 3) (dg := 195) (b := true) (k := .val (.bool false)) (step_lt_int (m := ((s : Nat) : Int)) (n := ((mid : Nat) : Int)) (by kernel_rfl) (Opd.of_base 196 rfl) (Opd.of_base 197 rfl) (decide_eq_false (by omega)) rfl) (by kernel_rfl) (by decide) (by kernel_rfl) (by decide) rfl h ?_
  clear h
  intro a w h
  refine env_one (i := 7) (d := 199) (k := .val (.bool false)) (step_pick_yes (y := .const (.bool false)) (by kernel_rfl) (Opd.of_base 195 rfl) (Opd.of_base 198 rfl) rfl) (by kernel_rfl) (by decide) h ?_
  clear h
  intro a w h
  exact hQ a w (h.keep [0, 1, 2, 3, 4, 18, 20, 24, 199])
theorem sy41y_region {Q : Exit → Act → World → Prop} (blk cap pc sz lo m hi : Nat) (mid : Nat) (s e : Nat) (h1 : lo < s) (h2 : s < mid) {w0 : World} {a : Act} {w : World} (h : Hold 220 [(0, .val (.slice (some ⟨blk, 0, none⟩) sz cap)), (1, .val (.int .i64 ((lo : Nat) : Int))), (2, .val (.int .i64 ((m : Nat) : Int))), (3, .val (.int .i64 ((hi : Nat) : Int))), (4, .val (sortFn pc)), (18, .val (.int .i64 ((mid : Nat) : Int))), (20, .val (.int .i64 ((s : Nat) : Int))), (24, .val (.int .i64 ((e : Nat) : Int)))] w0 a w)
    (hQ : ∀ a' w', Hold 220 [(0, .val (.slice (some ⟨blk, 0, none⟩) sz cap)), (1, .val (.int .i64 ((lo : Nat) : Int))), (2, .val (.int .i64 ((m : Nat) : Int))), (3, .val (.int .i64 ((hi : Nat) : Int))), (4, .val (sortFn pc)), (18, .val (.int .i64 ((mid : Nat) : Int))), (20, .val (.int .i64 ((s : Nat) : Int))), (24, .val (.int .i64 ((e : Nat) : Int))), (199, .val (.bool true))] w0 a' w' → Q .normal a' w') : (Code.region 41 sy41Ops false).wp Tryd.prog Q a w := by
  refine region_seq (w0 := w) 8 (by kernel_rfl) ?_
  rw [show List.range 8 = [0, 1, 2, 3, 4, 5, 6, 7] from rfl]
  refine env_one (i := 0) (d := 192) (k := .val (.int .i64 ((lo : Nat) : Int))) (step_move (by kernel_rfl) (Opd.of_base 1 rfl) rfl) (by kernel_rfl) (by decide) h ?_
  clear h
  intro a w h
  refine env_one (i := 1) (d := 193) (k := .val (.int .i64 ((s : Nat) : Int))) (step_move (by kernel_rfl) (Opd.of_base 20 rfl) rfl) (by kernel_rfl) (by decide) h ?_
  clear h
  intro a w h
  refine env_one (i := 2) (d := 194) (k := .val (.bool true)) (step_lt_int (m := ((lo : Nat) : Int)) (n := ((s : Nat) : Int)) (by kernel_rfl) (Opd.of_base 192 rfl) (Opd.of_base 193 rfl) (decide_eq_true (by omega)) rfl) (by kernel_rfl) (by decide) h ?_
  clear h
  intro a w h
  refine env_one (i := 3) (d := 195) (k := .val (.bool true)) (step_move (by kernel_rfl) (Opd.of_base 194 rfl) rfl) (by kernel_rfl) (by decide) h ?_
  clear h
  intro a w h
  refine env_guard (i := 4) (d := 196) (g := 3) (dg := 195) (b := true) (k := .val (.int .i64 ((s : Nat) : Int))) (step_move (by kernel_rfl) (Opd.of_base 20 rfl) rfl) (by kernel_rfl) (by decide) (by kernel_rfl) (by decide) rfl h ?_
  clear h
  intro a w h
  refine env_guard (i := 5) (d := 197) (g := 3) (dg := 195) (b := true) (k := .val (.int .i64 ((mid : Nat) : Int))) (step_move (by kernel_rfl) (Opd.of_base 18 rfl) rfl) (by kernel_rfl) (by decide) (by kernel_rfl) (by decide) rfl h ?_
  clear h
  intro a w h
  refine env_guard (i := 6) (d := 198) (g := 3) (dg := 195) (b := true) (k := .val (.bool true)) (step_lt_int (m := ((s : Nat) : Int)) (n := ((mid : Nat) : Int)) (by kernel_rfl) (Opd.of_base 196 rfl) (Opd.of_base 197 rfl) (decide_eq_true (by omega)) rfl) (by kernel_rfl) (by decide) (by kernel_rfl) (by decide) rfl h ?_
  clear h
  intro a w h
  refine env_one (i := 7) (d := 199) (k := .val (.bool true)) (step_pick_yes (y := .const (.bool false)) (by kernel_rfl) (Opd.of_base 195 rfl) (Opd.of_base 198 rfl) rfl) (by kernel_rfl) (by decide) h ?_
  clear h
  intro a w h
  exact hQ a w (h.keep [0, 1, 2, 3, 4, 18, 20, 24, 199])
theorem sy43n_region {Q : Exit → Act → World → Prop} (blk cap pc sz lo m hi : Nat) (mid : Nat) (s e : Nat) (h1 : ¬ mid < e) {w0 : World} {a : Act} {w : World} (h : Hold 220 [(0, .val (.slice (some ⟨blk, 0, none⟩) sz cap)), (1, .val (.int .i64 ((lo : Nat) : Int))), (2, .val (.int .i64 ((m : Nat) : Int))), (3, .val (.int .i64 ((hi : Nat) : Int))), (4, .val (sortFn pc)), (18, .val (.int .i64 ((mid : Nat) : Int))), (20, .val (.int .i64 ((s : Nat) : Int))), (24, .val (.int .i64 ((e : Nat) : Int)))] w0 a w)
    (hQ : ∀ a' w', Hold 220 [(0, .val (.slice (some ⟨blk, 0, none⟩) sz cap)), (1, .val (.int .i64 ((lo : Nat) : Int))), (2, .val (.int .i64 ((m : Nat) : Int))), (3, .val (.int .i64 ((hi : Nat) : Int))), (4, .val (sortFn pc)), (18, .val (.int .i64 ((mid : Nat) : Int))), (20, .val (.int .i64 ((s : Nat) : Int))), (24, .val (.int .i64 ((e : Nat) : Int))), (213, .val (.bool false))] w0 a' w' → Q .normal a' w') : (Code.region 43 sy43Ops false).wp Tryd.prog Q a w := by
  refine region_seq (w0 := w) 8 (by kernel_rfl) ?_
  rw [show List.range 8 = [0, 1, 2, 3, 4, 5, 6, 7] from rfl]
  refine env_one (i := 0) (d := 206) (k := .val (.int .i64 ((mid : Nat) : Int))) (step_move (by kernel_rfl) (Opd.of_base 18 rfl) rfl) (by kernel_rfl) (by decide) h ?_
  clear h
  intro a w h
  refine env_one (i := 1) (d := 207) (k := .val (.int .i64 ((e : Nat) : Int))) (step_move (by kernel_rfl) (Opd.of_base 24 rfl) rfl) (by kernel_rfl) (by decide) h ?_
  clear h
  intro a w h
  refine env_one (i := 2) (d := 208) (k := .val (.bool false)) (step_lt_int (m := ((mid : Nat) : Int)) (n := ((e : Nat) : Int)) (by kernel_rfl) (Opd.of_base 206 rfl) (Opd.of_base 207 rfl) (decide_eq_false (by omega)) rfl) (by kernel_rfl) (by decide) h ?_
  clear h
  intro a w h
  refine env_one (i := 3) (d := 209) (k := .val (.bool false)) (step_move (by kernel_rfl) (Opd.of_base 208 rfl) rfl) (by kernel_rfl) (by decide) h ?_
  clear h
  intro a w h
  refine env_skip (i := 4) (d := 210) (g := 3) (dg := 209) (b := true) (by kernel_rfl) (by decide) (by kernel_rfl) rfl rfl h ?_
  clear h
  intro a w h
  refine env_skip (i := 5) (d := 211) (g := 3) (dg := 209) (b := true) (by kernel_rfl) (by decide) (by kernel_rfl) rfl rfl h ?_
  clear h
  intro a w h
  refine env_skip (i := 6) (d := 212) (g := 3) (dg := 209) (b := true) (by kernel_rfl) (by decide) (by kernel_rfl) rfl rfl h ?_
  clear h
  intro a w h
  refine env_one (i := 7) (d := 213) (k := .val (.bool false)) (step_pick_no (x := .tmp 212) (by kernel_rfl) (Opd.of_base 209 rfl) (Opd.const _) rfl) (by kernel_rfl) (by decide) h ?_
  clear h
  intro a w h
  exact hQ a w (h.keep [0, 1, 2, 3, 4, 18, 20, 24, 213])
theorem sy43f_region {Q : Exit → Act → World → Prop} (blk cap pc sz lo m hi : Nat) (mid : Nat) (s e : Nat) (h1 : mid < e) (h2 : ¬ e < hi) {w0 : World} {a : Act} {w : World} (h : Hold 220 [(0, .val (.slice (some ⟨blk, 0, none⟩) sz cap)), (1, .val (.int .i64 ((lo : Nat) : Int))), (2, .val (.int .i64 ((m : Nat) : Int))), (3, .val (.int .i64 ((hi : Nat) : Int))), (4, .val (sortFn pc)), (18, .val (.int .i64 ((mid : Nat) : Int))), (20, .val (.int .i64 ((s : Nat) : Int))), (24, .val (.int .i64 ((e : Nat) : Int)))] w0 a w)
    (hQ : ∀ a' w', Hold 220 [(0, .val (.slice (some ⟨blk, 0, none⟩) sz cap)), (1, .val (.int .i64 ((lo : Nat) : Int))), (2, .val (.int .i64 ((m : Nat) : Int))), (3, .val (.int .i64 ((hi : Nat) : Int))), (4, .val (sortFn pc)), (18, .val (.int .i64 ((mid : Nat) : Int))), (20, .val (.int .i64 ((s : Nat) : Int))), (24, .val (.int .i64 ((e : Nat) : Int))), (213, .val (.bool false))] w0 a' w' → Q .normal a' w') : (Code.region 43 sy43Ops false).wp Tryd.prog Q a w := by
  refine region_seq (w0 := w) 8 (by kernel_rfl) ?_
  rw [show List.range 8 = [0, 1, 2, 3, 4, 5, 6, 7] from rfl]
  refine env_one (i := 0) (d := 206) (k := .val (.int .i64 ((mid : Nat) : Int))) (step_move (by kernel_rfl) (Opd.of_base 18 rfl) rfl) (by kernel_rfl) (by decide) h ?_
  clear h
  intro a w h
  refine env_one (i := 1) (d := 207) (k := .val (.int .i64 ((e : Nat) : Int))) (step_move (by kernel_rfl) (Opd.of_base 24 rfl) rfl) (by kernel_rfl) (by decide) h ?_
  clear h
  intro a w h
  refine env_one (i := 2) (d := 208) (k := .val (.bool true)) (step_lt_int (m := ((mid : Nat) : Int)) (n := ((e : Nat) : Int)) (by kernel_rfl) (Opd.of_base 206 rfl) (Opd.of_base 207 rfl) (decide_eq_true (by omega)) rfl) (by kernel_rfl) (by decide) h ?_
  clear h
  intro a w h
  refine env_one (i := 3) (d := 209) (k := .val (.bool true)) (step_move (by kernel_rfl) (Opd.of_base 208 rfl) rfl) (by kernel_rfl) (by decide) h ?_
  clear h
  intro a w h
  refine env_guard (i := 4) (d := 210) (g := 3) (dg := 209) (b := true) (k := .val (.int .i64 ((e : Nat) : Int))) (step_move (by kernel_rfl) (Opd.of_base 24 rfl) rfl) (by kernel_rfl) (by decide) (by kernel_rfl) (by decide) rfl h ?_
  clear h
  intro a w h
  refine env_guard (i := 5) (d := 211) (g := 3) (dg := 209) (b := true) (k := .val (.int .i64 ((hi : Nat) : Int))) (step_move (by kernel_rfl) (Opd.of_base 3 rfl) rfl) (by kernel_rfl) (by decide) (by kernel_rfl) (by decide) rfl h ?_
  clear h
  intro a w h
  refine env_guard (i := 6) (d := 212) (g := 3) (dg := 209) (b := true) (k := .val (.bool false)) (step_lt_int (m := ((e : Nat) : Int)) (n := ((hi : Nat) : Int)) (by kernel_rfl) (Opd.of_base 210 rfl) (Opd.of_base 211 rfl) (decide_eq_false (by omega)) rfl) (by kernel_rfl) (by decide) (by kernel_rfl) (by decide) rfl h ?_
  clear h
  intro a w h
  refine env_one (i := 7) (d := 213) (k := .val (.bool false)) (step_pick_yes (y := .const (.bool false)) (by kernel_rfl) (Opd.of_base 209 rfl) (Opd.of_base 212 rfl) rfl) (by kernel_rfl) (by decide) h ?_
  clear h
  intro a w h
  exact hQ a w (h.keep [0, 1, 2, 3, 4, 18, 20, 24, 213])
theorem sy43y_region {Q : Exit → Act → World → Prop} (blk cap pc sz lo m hi : Nat) (mid : Nat) (s e : Nat) (h1 : mid < e) (h2 : e < hi) {w0 : World} {a : Act} {w : World} (h : Hold 220 [(0, .val (.slice (some ⟨blk, 0, none⟩) sz cap)), (1, .val (.int .i64 ((lo : Nat) : Int))), (2, .val (.int .i64 ((m : Nat) : Int))), (3, .val (.int .i64 ((hi : Nat) : Int))), (4, .val (sortFn pc)), (18, .val (.int .i64 ((mid : Nat) : Int))), (20, .val (.int .i64 ((s : Nat) : Int))), (24, .val (.int .i64 ((e : Nat) : Int)))] w0 a w)
    (hQ : ∀ a' w', Hold 220 [(0, .val (.slice (some ⟨blk, 0, none⟩) sz cap)), (1, .val (.int .i64 ((lo : Nat) : Int))), (2, .val (.int .i64 ((m : Nat) : Int))), (3, .val (.int .i64 ((hi : Nat) : Int))), (4, .val (sortFn pc)), (18, .val (.int .i64 ((mid : Nat) : Int))), (20, .val (.int .i64 ((s : Nat) : Int))), (24, .val (.int .i64 ((e : Nat) : Int))), (213, .val (.bool true))] w0 a' w' → Q .normal a' w') : (Code.region 43 sy43Ops false).wp Tryd.prog Q a w := by
  refine region_seq (w0 := w) 8 (by kernel_rfl) ?_
  rw [show List.range 8 = [0, 1, 2, 3, 4, 5, 6, 7] from rfl]
  refine env_one (i := 0) (d := 206) (k := .val (.int .i64 ((mid : Nat) : Int))) (step_move (by kernel_rfl) (Opd.of_base 18 rfl) rfl) (by kernel_rfl) (by decide) h ?_
  clear h
  intro a w h
  refine env_one (i := 1) (d := 207) (k := .val (.int .i64 ((e : Nat) : Int))) (step_move (by kernel_rfl) (Opd.of_base 24 rfl) rfl) (by kernel_rfl) (by decide) h ?_
  clear h
  intro a w h
  refine env_one (i := 2) (d := 208) (k := .val (.bool true)) (step_lt_int (m := ((mid : Nat) : Int)) (n := ((e : Nat) : Int)) (by kernel_rfl) (Opd.of_base 206 rfl) (Opd.of_base 207 rfl) (decide_eq_true (by omega)) rfl) (by kernel_rfl) (by decide) h ?_
  clear h
  intro a w h
  refine env_one (i := 3) (d := 209) (k := .val (.bool true)) (step_move (by kernel_rfl) (Opd.of_base 208 rfl) rfl) (by kernel_rfl) (by decide) h ?_
  clear h
  intro a w h
  refine env_guard (i := 4) (d := 210) (g := 3) (dg := 209) (b := true) (k := .val (.int .i64 ((e : Nat) : Int))) (step_move (by kernel_rfl) (Opd.of_base 24 rfl) rfl) (by kernel_rfl) (by decide) (by kernel_rfl) (by decide) rfl h ?_
  clear h
  intro a w h
  refine env_guard (i := 5) (d := 211) (g := 3) (dg := 209) (b := true) (k := .val (.int .i64 ((hi : Nat) : Int))) (step_move (by kernel_rfl) (Opd.of_base 3 rfl) rfl) (by kernel_rfl) (by decide) (by kernel_rfl) (by decide) rfl h ?_
  clear h
  intro a w h
  refine env_guard (i := 6) (d := 212) (g := 3) (dg := 209) (b := true) (k := .val (.bool true)) (step_lt_int (m := ((e : Nat) : Int)) (n := ((hi : Nat) : Int)) (by kernel_rfl) (Opd.of_base 210 rfl) (Opd.of_base 211 rfl) (decide_eq_true (by omega)) rfl) (by kernel_rfl) (by decide) (by kernel_rfl) (by decide) rfl h ?_
  clear h
  intro a w h
  refine env_one (i := 7) (d := 213) (k := .val (.bool true)) (step_pick_yes (y := .const (.bool false)) (by kernel_rfl) (Opd.of_base 209 rfl) (Opd.of_base 212 rfl) rfl) (by kernel_rfl) (by decide) h ?_
  clear h
  intro a w h
  exact hQ a w (h.keep [0, 1, 2, 3, 4, 18, 20, 24, 213])
end Go.Proofs.YtcjakmafojbhlaaDoor
namespace Go.Proofs.YtcjakmafojbhlaaDoor
set_option linter.unusedVariables false
set_option linter.unusedSimpArgs false
open Go.RowKit
open Go.Sort (PermIn SortedIn swp permIn_all permIn_refl permIn_trans permIn_mono swp_permIn)

/-- A loop that comes to an end because a number falls. -/
theorem wp_while {Q : Exit → Act → World → Prop} {a : Act} {w : World} {c : Code} (J : Nat → Act → World → Prop) (n : Nat) (h0 : J n a w) (step : ∀ g a w, J g a w → c.wp Tryd.prog (Exit.then (fun a' w' => ∃ g', g' < g ∧ J g' a' w') Q) a w) : (Code.loop c).wp Tryd.prog Q a w := by
  have key : ∀ m g a w, g ≤ m → J g a w → Code.rounds Tryd.prog c Q (m + 1) a w := by
    intro m
    induction m with
    | zero =>
      intro g a w hg hj
      rw [rounds_succ]
      refine Code.wp_mono ?_ (step g a w hj)
      intro e a' w' h
      cases e with
      | normal => obtain ⟨g', hg', _⟩ := h; omega
      | _ => exact h
    | succ m ih =>
      intro g a w hg hj
      rw [rounds_succ]
      refine Code.wp_mono ?_ (step g a w hj)
      intro e a' w' h
      cases e with
      | normal => obtain ⟨g', hg', hj'⟩ := h; exact ih g' a' w' (by omega) hj'
      | _ => exact h
  exact wp_loop_rounds (n + 1) (key n n a w (Nat.le_refl _) h0)

/-- The search for the place from which the runs are rotated. -/
theorem sym_search (W : World) (blk cap pc sz lo m hi mid : Nat) (b : Bool) (d : Array Tg) (C : CmpC W blk pc b) (hs : d.size = sz) (hf : Fit b d) (h63 : sz ≤ 4611686018427387903) (ham : lo < m) (hmh : m < hi) (hh : hi ≤ sz) (hmid : mid = (lo + hi) / 2)
    (lo0 r0 : Nat) (f1 : mid + m ≤ lo0 + hi) (f2 : r0 + m ≤ mid + m) (f3 : lo ≤ lo0) (f4 : lo0 ≤ r0) (f5 : r0 ≤ m) (f6 : r0 + m ≤ mid + m)
    {Q : Exit → Act → World → Prop} {a : Act} {w : World} (h : Hold 220 [(0, .val (.slice (some ⟨blk, 0, none⟩) sz cap)), (1, .val (.int .i64 ((lo : Nat) : Int))), (2, .val (.int .i64 ((m : Nat) : Int))), (3, .val (.int .i64 ((hi : Nat) : Int))), (4, .val (sortFn pc)), (18, .val (.int .i64 ((mid : Nat) : Int))), (19, .val (.int .i64 ((mid + m : Nat) : Int))), (20, .val (.int .i64 ((lo0 : Nat) : Int))), (21, .val (.int .i64 ((r0 : Nat) : Int))), (22, .val (.int .i64 ((mid + m - 1 : Nat) : Int)))] w a w) (hst : St W blk d w)
    (fin : ∀ s a w, lo0 ≤ s → s ≤ r0 → (s = lo0 ∨ ¬ Tm.cmpK b d[mid + m - s]!.1 d[s - 1]!.1 < 0) → (s = r0 ∨ Tm.cmpK b d[mid + m - s - 1]!.1 d[s]!.1 < 0) → St W blk d w → Hold 220 [(0, .val (.slice (some ⟨blk, 0, none⟩) sz cap)), (1, .val (.int .i64 ((lo : Nat) : Int))), (2, .val (.int .i64 ((m : Nat) : Int))), (3, .val (.int .i64 ((hi : Nat) : Int))), (4, .val (sortFn pc)), (18, .val (.int .i64 ((mid : Nat) : Int))), (19, .val (.int .i64 ((mid + m : Nat) : Int))), (20, .val (.int .i64 ((s : Nat) : Int)))] w a w → Q .normal a w) :
    (Code.block 8 (.loop (.seq (.seq (.region 33 sy33Ops false) (.cond (.tmp 151) .skip (.exit 8))) (.block 9 (.seq (.region 34 sy34Ops false) (.seq (.region 35 sy35Ops true) (.cond (.tmp 171) (.region 36 sy36Ops false) (.region 37 sy37Ops false)))))))).wp Tryd.prog Q a w := by
  refine wp_block ?_
  refine wp_while (fun g a w => ∃ s r : Nat, g = r - s ∧ lo0 ≤ s ∧ s ≤ r ∧ r ≤ r0 ∧ (s = lo0 ∨ ¬ Tm.cmpK b d[mid + m - s]!.1 d[s - 1]!.1 < 0) ∧ (r = r0 ∨ Tm.cmpK b d[mid + m - r - 1]!.1 d[r]!.1 < 0) ∧ St W blk d w ∧ Hold 220 [(0, .val (.slice (some ⟨blk, 0, none⟩) sz cap)), (1, .val (.int .i64 ((lo : Nat) : Int))), (2, .val (.int .i64 ((m : Nat) : Int))), (3, .val (.int .i64 ((hi : Nat) : Int))), (4, .val (sortFn pc)), (18, .val (.int .i64 ((mid : Nat) : Int))), (19, .val (.int .i64 ((mid + m : Nat) : Int))), (20, .val (.int .i64 ((s : Nat) : Int))), (21, .val (.int .i64 ((r : Nat) : Int))), (22, .val (.int .i64 ((mid + m - 1 : Nat) : Int)))] w a w) (r0 - lo0) ⟨lo0, r0, rfl, Nat.le_refl _, f4, Nat.le_refl _, .inl rfl, .inl rfl, hst, h⟩ ?_
  rintro g a w ⟨s, r, rfl, g1, g2, g3, k1, k2, hst, h⟩
  refine wp_seq ?_
  refine wp_seq ?_
  refine sy33_region blk cap pc sz lo m hi mid s r (by omega) ham hmh hh hmid h ?_
  intro a1 w1 h
  have hst1 := hst.below h.world
  have h := h.here
  by_cases hlt : s < r
  · have hb : decide ((s : Int) < (r : Int)) = true := decide_eq_true (by omega)
    rw [hb] at h
    refine env_cond (b := true) rfl h ?_
    refine wp_skip ?_
    have h := h.keep [0, 1, 2, 3, 4, 18, 19, 20, 21, 22]
    show Code.wp _ _ _ a1 w1
    refine wp_block ?_
    refine wp_seq ?_
    refine sy34_region blk cap pc sz lo m hi mid s r (by omega) ham hmh hh hmid (by omega) (by omega) h ?_
    intro a2 w2 h
    have hst2 := hst1.below h.world
    have h := h.here
    show Code.wp _ _ _ a2 w2
    obtain ⟨c, hc⟩ : ∃ c, c = (s + r) / 2 := ⟨_, rfl⟩
    rw [← hc] at h
    have hc1 : s ≤ c := by omega
    have hc2 : c < r := by omega
    have i1 : mid + m - 1 - c < d.size := by omega
    have i2 : c < d.size := by omega
    obtain ⟨r1, d1⟩ := rowF_drop d (mid + m - 1 - c) i1
    obtain ⟨r2, d2⟩ := rowF_drop d c i2
    refine wp_seq ?_
    have hd : Hold 220 [(0, .sat (rowAt (some ⟨blk, 0, none⟩) sz cap (rowF d))), (1, .val (.int .i64 ((lo : Nat) : Int))), (2, .val (.int .i64 ((m : Nat) : Int))), (3, .val (.int .i64 ((hi : Nat) : Int))), (4, .val (sortFn pc)), (18, .val (.int .i64 ((mid : Nat) : Int))), (19, .val (.int .i64 ((mid + m : Nat) : Int))), (20, .val (.int .i64 ((s : Nat) : Int))), (21, .val (.int .i64 ((r : Nat) : Int))), (22, .val (.int .i64 ((mid + m - 1 : Nat) : Int))), (23, .val (.int .i64 ((c : Nat) : Int))), (998, .sat (onlyP W blk))] w2 a2 w2 := ⟨h.size, h.defers, Below.refl _ _, fun t k hk => by
      by_cases ht : t = 0
      · subst ht
        cases hk
        exact ⟨h.get 0 rfl, by rw [rowF_len, hs], by have := hst2.argsIn (by omega); rw [rowF_len, hs] at this; exact this⟩
      · by_cases ht2 : t = 998
        · subst ht2
          cases hk
          exact hst2.only
        · have e0 : (0 == t) = false := by simp; omega
          have e1 : (998 == t) = false := by simp; omega
          refine h.slots t k ?_
          simp only [look_cons, e0, e1, if_false, Bool.false_eq_true] at hk ⊢
          exact hk⟩
    refine sy35_region W blk cap pc sz lo m hi mid s r c b (rowF d) _ _ r1 _ _ r2 C (by omega) (by omega) d1 d2 (hf _ i1) (hf _ i2) hd ?_
    intro a3 w3 h3
    have hst3 := hst2.below h3.world
    have h := h3.here
    have hz : Hold 220 [(0, .val (.slice (some ⟨blk, 0, none⟩) sz cap)), (1, .val (.int .i64 ((lo : Nat) : Int))), (2, .val (.int .i64 ((m : Nat) : Int))), (3, .val (.int .i64 ((hi : Nat) : Int))), (4, .val (sortFn pc)), (18, .val (.int .i64 ((mid : Nat) : Int))), (19, .val (.int .i64 ((mid + m : Nat) : Int))), (20, .val (.int .i64 ((s : Nat) : Int))), (21, .val (.int .i64 ((r : Nat) : Int))), (22, .val (.int .i64 ((mid + m - 1 : Nat) : Int))), (23, .val (.int .i64 ((c : Nat) : Int))), (171, .val (.bool (!(decide (Tm.cmpK b d[mid + m - 1 - c]!.1 d[c]!.1 < 0)))))] w3 a3 w3 := ⟨h.size, h.defers, Below.refl _ _, fun t k hk => by
      by_cases ht : t = 0
      · subst ht
        cases hk
        exact (h.get 0 rfl : (rowAt _ _ _ _).R _ _).1
      · have e0 : (0 == t) = false := by simp; omega
        refine h.slots t k ?_
        simp only [look_cons, e0, if_false, Bool.false_eq_true] at hk ⊢
        exact hk⟩
    show Code.wp _ _ _ a3 w3
    by_cases hlv : Tm.cmpK b d[mid + m - 1 - c]!.1 d[c]!.1 < 0
    · rw [decide_eq_true hlv] at hz
      refine env_cond (b := false) rfl hz ?_
      have hz := hz.keep [0, 1, 2, 3, 4, 18, 19, 20, 21, 22, 23]
      show Code.wp _ _ _ a3 w3
      refine sy37_region blk cap pc sz lo m hi mid s r c (by omega) ham hmh hh hmid hz ?_
      intro a4 w4 h4
      refine ⟨c - s, by omega, s, c, rfl, g1, hc1, by omega, k1, .inr ?_, hst3.below h4.world, h4.here⟩
      rw [show mid + m - c - 1 = mid + m - 1 - c by omega]
      exact hlv
    · rw [decide_eq_false hlv] at hz
      refine env_cond (b := true) rfl hz ?_
      have hz := hz.keep [0, 1, 2, 3, 4, 18, 19, 20, 21, 22, 23]
      show Code.wp _ _ _ a3 w3
      refine sy36_region blk cap pc sz lo m hi mid s r c (by omega) ham hmh hh hmid (by omega) hz ?_
      intro a4 w4 h4
      refine ⟨r - (c + 1), by omega, c + 1, r, rfl, by omega, by omega, g3, .inr ?_, k2, hst3.below h4.world, h4.here⟩
      rw [Nat.add_sub_cancel, show mid + m - (c + 1) = mid + m - 1 - c by omega]
      exact hlv
  · obtain rfl : s = r := by omega
    have hb : decide ((s : Int) < (s : Int)) = false := decide_eq_false (by omega)
    rw [hb] at h
    refine env_cond (b := false) rfl h ?_
    refine wp_exit ?_
    exact fin s a1 w1 g1 g3 k1 k2 hst1 (h.keep [0, 1, 2, 3, 4, 18, 19, 20])
end Go.Proofs.YtcjakmafojbhlaaDoor
namespace Go.Proofs.YtcjakmafojbhlaaDoor
set_option linter.unusedVariables false
set_option linter.unusedSimpArgs false
open Go.RowKit
open Go.Sort (PermIn SortedIn swp permIn_all permIn_refl permIn_trans permIn_mono swp_permIn)
theorem sy40c_call {Q : Exit → Act → World → Prop} (blk cap pc sz lo m hi mid s e : Nat)  {w0 : World} {a : Act} {w : World} {R : Ending → World → Prop} (h : Hold 220 [(0, .val (.slice (some ⟨blk, 0, none⟩) sz cap)), (1, .val (.int .i64 ((lo : Nat) : Int))), (2, .val (.int .i64 ((m : Nat) : Int))), (3, .val (.int .i64 ((hi : Nat) : Int))), (4, .val (sortFn pc)), (18, .val (.int .i64 ((mid : Nat) : Int))), (20, .val (.int .i64 ((s : Nat) : Int))), (24, .val (.int .i64 ((e : Nat) : Int)))] w0 a w)
    (hc : ∀ w', Below w0.heap.size w0 w' → Calls Tryd.prog 84 #[.slice (some ⟨blk, 0, none⟩) sz cap, .int .i64 ((s : Nat) : Int), .int .i64 ((m : Nat) : Int), .int .i64 ((e : Nat) : Int), sortFn pc] w' R) (hQ : ∀ x_ w', R x_ w' → x_ = .returned (.tuple #[]) ∧ ∀ a', Hold 220 [(0, .val (.slice (some ⟨blk, 0, none⟩) sz cap)), (1, .val (.int .i64 ((lo : Nat) : Int))), (2, .val (.int .i64 ((m : Nat) : Int))), (3, .val (.int .i64 ((hi : Nat) : Int))), (4, .val (sortFn pc)), (18, .val (.int .i64 ((mid : Nat) : Int))), (20, .val (.int .i64 ((s : Nat) : Int))), (24, .val (.int .i64 ((e : Nat) : Int)))] w' a' w' → Q .normal a' w') : (Code.region 40 sy40Ops false).wp Tryd.prog Q a w := by
  refine region_seq (w0 := w) 6 (by kernel_rfl) ?_
  rw [show List.range 6 = [0, 1, 2, 3, 4, 5] from rfl]
  refine env_one (i := 0) (d := 186) (k := .val (.slice (some ⟨blk, 0, none⟩) sz cap)) (step_move (by kernel_rfl) (Opd.of_base 0 rfl) rfl) (by kernel_rfl) (by decide) h ?_
  clear h
  intro a w h
  refine env_one (i := 1) (d := 187) (k := .val (.int .i64 ((s : Nat) : Int))) (step_move (by kernel_rfl) (Opd.of_base 20 rfl) rfl) (by kernel_rfl) (by decide) h ?_
  clear h
  intro a w h
  refine env_one (i := 2) (d := 188) (k := .val (.int .i64 ((m : Nat) : Int))) (step_move (by kernel_rfl) (Opd.of_base 2 rfl) rfl) (by kernel_rfl) (by decide) h ?_
  clear h
  intro a w h
  refine env_one (i := 3) (d := 189) (k := .val (.int .i64 ((e : Nat) : Int))) (step_move (by kernel_rfl) (Opd.of_base 24 rfl) rfl) (by kernel_rfl) (by decide) h ?_
  clear h
  intro a w h
  refine env_one (i := 4) (d := 190) (k := .val (sortFn pc)) (step_move (by kernel_rfl) (Opd.of_base 4 rfl) rfl) (by kernel_rfl) (by decide) h ?_
  clear h
  intro a w h
  have e0 : a.eval (.tmp 186) = (.slice (some ⟨blk, 0, none⟩) sz cap) := h.get 186 rfl
  have e1 : a.eval (.tmp 187) = (.int .i64 ((s : Nat) : Int)) := h.get 187 rfl
  have e2 : a.eval (.tmp 188) = (.int .i64 ((m : Nat) : Int)) := h.get 188 rfl
  have e3 : a.eval (.tmp 189) = (.int .i64 ((e : Nat) : Int)) := h.get 189 rfl
  have e4 : a.eval (.tmp 190) = (sortFn pc) := h.get 190 rfl
  refine env_call (env := []) (w0 := w) (tys := #[22, 3, 3, 3, 25]) (i := 5) (d := 191) (f := 84) (xs := #[.tmp 186, .tmp 187, .tmp 188, .tmp 189, .tmp 190]) (by kernel_rfl) (fun _ _ => by kernel_rfl) (vs := #[.slice (some ⟨blk, 0, none⟩) sz cap, .int .i64 ((s : Nat) : Int), .int .i64 ((m : Nat) : Int), .int .i64 ((e : Nat) : Int), sortFn pc]) ?_ (hc w h.world) ?_
  · rw [← e0, ← e1, ← e2, ← e3, ← e4]; simp
  · intro x_ w' hr
    obtain ⟨he, hq⟩ := hQ x_ w' hr
    exact ⟨_, he, hq _ ((h.keep [0, 1, 2, 3, 4, 18, 20, 24]).move rfl rfl)⟩
theorem sy42c_call {Q : Exit → Act → World → Prop} (blk cap pc sz lo m hi mid s e : Nat)  {w0 : World} {a : Act} {w : World} {R : Ending → World → Prop} (h : Hold 220 [(0, .val (.slice (some ⟨blk, 0, none⟩) sz cap)), (1, .val (.int .i64 ((lo : Nat) : Int))), (2, .val (.int .i64 ((m : Nat) : Int))), (3, .val (.int .i64 ((hi : Nat) : Int))), (4, .val (sortFn pc)), (18, .val (.int .i64 ((mid : Nat) : Int))), (20, .val (.int .i64 ((s : Nat) : Int))), (24, .val (.int .i64 ((e : Nat) : Int)))] w0 a w)
    (hc : ∀ w', Below w0.heap.size w0 w' → Calls Tryd.prog 81 #[.slice (some ⟨blk, 0, none⟩) sz cap, .int .i64 ((lo : Nat) : Int), .int .i64 ((s : Nat) : Int), .int .i64 ((mid : Nat) : Int), sortFn pc] w' R) (hQ : ∀ x_ w', R x_ w' → x_ = .returned (.tuple #[]) ∧ ∀ a', Hold 220 [(0, .val (.slice (some ⟨blk, 0, none⟩) sz cap)), (1, .val (.int .i64 ((lo : Nat) : Int))), (2, .val (.int .i64 ((m : Nat) : Int))), (3, .val (.int .i64 ((hi : Nat) : Int))), (4, .val (sortFn pc)), (18, .val (.int .i64 ((mid : Nat) : Int))), (20, .val (.int .i64 ((s : Nat) : Int))), (24, .val (.int .i64 ((e : Nat) : Int)))] w' a' w' → Q .normal a' w') : (Code.region 42 sy42Ops false).wp Tryd.prog Q a w := by
  refine region_seq (w0 := w) 6 (by kernel_rfl) ?_
  rw [show List.range 6 = [0, 1, 2, 3, 4, 5] from rfl]
  refine env_one (i := 0) (d := 200) (k := .val (.slice (some ⟨blk, 0, none⟩) sz cap)) (step_move (by kernel_rfl) (Opd.of_base 0 rfl) rfl) (by kernel_rfl) (by decide) h ?_
  clear h
  intro a w h
  refine env_one (i := 1) (d := 201) (k := .val (.int .i64 ((lo : Nat) : Int))) (step_move (by kernel_rfl) (Opd.of_base 1 rfl) rfl) (by kernel_rfl) (by decide) h ?_
  clear h
  intro a w h
  refine env_one (i := 2) (d := 202) (k := .val (.int .i64 ((s : Nat) : Int))) (step_move (by kernel_rfl) (Opd.of_base 20 rfl) rfl) (by kernel_rfl) (by decide) h ?_
  clear h
  intro a w h
  refine env_one (i := 3) (d := 203) (k := .val (.int .i64 ((mid : Nat) : Int))) (step_move (by kernel_rfl) (Opd.of_base 18 rfl) rfl) (by kernel_rfl) (by decide) h ?_
  clear h
  intro a w h
  refine env_one (i := 4) (d := 204) (k := .val (sortFn pc)) (step_move (by kernel_rfl) (Opd.of_base 4 rfl) rfl) (by kernel_rfl) (by decide) h ?_
  clear h
  intro a w h
  have e0 : a.eval (.tmp 200) = (.slice (some ⟨blk, 0, none⟩) sz cap) := h.get 200 rfl
  have e1 : a.eval (.tmp 201) = (.int .i64 ((lo : Nat) : Int)) := h.get 201 rfl
  have e2 : a.eval (.tmp 202) = (.int .i64 ((s : Nat) : Int)) := h.get 202 rfl
  have e3 : a.eval (.tmp 203) = (.int .i64 ((mid : Nat) : Int)) := h.get 203 rfl
  have e4 : a.eval (.tmp 204) = (sortFn pc) := h.get 204 rfl
  refine env_call (env := []) (w0 := w) (tys := #[22, 3, 3, 3, 25]) (i := 5) (d := 205) (f := 81) (xs := #[.tmp 200, .tmp 201, .tmp 202, .tmp 203, .tmp 204]) (by kernel_rfl) (fun _ _ => by kernel_rfl) (vs := #[.slice (some ⟨blk, 0, none⟩) sz cap, .int .i64 ((lo : Nat) : Int), .int .i64 ((s : Nat) : Int), .int .i64 ((mid : Nat) : Int), sortFn pc]) ?_ (hc w h.world) ?_
  · rw [← e0, ← e1, ← e2, ← e3, ← e4]; simp
  · intro x_ w' hr
    obtain ⟨he, hq⟩ := hQ x_ w' hr
    exact ⟨_, he, hq _ ((h.keep [0, 1, 2, 3, 4, 18, 20, 24]).move rfl rfl)⟩
theorem sy44c_call {Q : Exit → Act → World → Prop} (blk cap pc sz lo m hi mid s e : Nat)  {w0 : World} {a : Act} {w : World} {R : Ending → World → Prop} (h : Hold 220 [(0, .val (.slice (some ⟨blk, 0, none⟩) sz cap)), (1, .val (.int .i64 ((lo : Nat) : Int))), (2, .val (.int .i64 ((m : Nat) : Int))), (3, .val (.int .i64 ((hi : Nat) : Int))), (4, .val (sortFn pc)), (18, .val (.int .i64 ((mid : Nat) : Int))), (20, .val (.int .i64 ((s : Nat) : Int))), (24, .val (.int .i64 ((e : Nat) : Int)))] w0 a w)
    (hc : ∀ w', Below w0.heap.size w0 w' → Calls Tryd.prog 81 #[.slice (some ⟨blk, 0, none⟩) sz cap, .int .i64 ((mid : Nat) : Int), .int .i64 ((e : Nat) : Int), .int .i64 ((hi : Nat) : Int), sortFn pc] w' R) (hQ : ∀ x_ w', R x_ w' → x_ = .returned (.tuple #[]) ∧ ∀ a', Hold 220 [] w' a' w' → Q .normal a' w') : (Code.region 44 sy44Ops false).wp Tryd.prog Q a w := by
  refine region_seq (w0 := w) 6 (by kernel_rfl) ?_
  rw [show List.range 6 = [0, 1, 2, 3, 4, 5] from rfl]
  refine env_one (i := 0) (d := 214) (k := .val (.slice (some ⟨blk, 0, none⟩) sz cap)) (step_move (by kernel_rfl) (Opd.of_base 0 rfl) rfl) (by kernel_rfl) (by decide) h ?_
  clear h
  intro a w h
  refine env_one (i := 1) (d := 215) (k := .val (.int .i64 ((mid : Nat) : Int))) (step_move (by kernel_rfl) (Opd.of_base 18 rfl) rfl) (by kernel_rfl) (by decide) h ?_
  clear h
  intro a w h
  refine env_one (i := 2) (d := 216) (k := .val (.int .i64 ((e : Nat) : Int))) (step_move (by kernel_rfl) (Opd.of_base 24 rfl) rfl) (by kernel_rfl) (by decide) h ?_
  clear h
  intro a w h
  refine env_one (i := 3) (d := 217) (k := .val (.int .i64 ((hi : Nat) : Int))) (step_move (by kernel_rfl) (Opd.of_base 3 rfl) rfl) (by kernel_rfl) (by decide) h ?_
  clear h
  intro a w h
  refine env_one (i := 4) (d := 218) (k := .val (sortFn pc)) (step_move (by kernel_rfl) (Opd.of_base 4 rfl) rfl) (by kernel_rfl) (by decide) h ?_
  clear h
  intro a w h
  have e0 : a.eval (.tmp 214) = (.slice (some ⟨blk, 0, none⟩) sz cap) := h.get 214 rfl
  have e1 : a.eval (.tmp 215) = (.int .i64 ((mid : Nat) : Int)) := h.get 215 rfl
  have e2 : a.eval (.tmp 216) = (.int .i64 ((e : Nat) : Int)) := h.get 216 rfl
  have e3 : a.eval (.tmp 217) = (.int .i64 ((hi : Nat) : Int)) := h.get 217 rfl
  have e4 : a.eval (.tmp 218) = (sortFn pc) := h.get 218 rfl
  refine env_call (env := []) (w0 := w) (tys := #[22, 3, 3, 3, 25]) (i := 5) (d := 219) (f := 81) (xs := #[.tmp 214, .tmp 215, .tmp 216, .tmp 217, .tmp 218]) (by kernel_rfl) (fun _ _ => by kernel_rfl) (vs := #[.slice (some ⟨blk, 0, none⟩) sz cap, .int .i64 ((mid : Nat) : Int), .int .i64 ((e : Nat) : Int), .int .i64 ((hi : Nat) : Int), sortFn pc]) ?_ (hc w h.world) ?_
  · rw [← e0, ← e1, ← e2, ← e3, ← e4]; simp
  · intro x_ w' hr
    obtain ⟨he, hq⟩ := hQ x_ w' hr
    exact ⟨_, he, hq _ ((h.keep []).move rfl rfl)⟩

/-- Merges of fewer than n elements. -/
def Merges (W : World) (blk cap pc sz : Nat) (b : Bool) (n : Nat) : Prop := ∀ (lo m hi : Nat) (d : Array Tg) (w : World), hi - lo < n → d.size = sz → lo < m → m < hi → hi ≤ sz → Fit b d → SortedIn (ltB b) lo m d → SortedIn (ltB b) m hi d → Apart lo m hi d → St W blk d w →
    Calls Tryd.prog 81 #[.slice (some ⟨blk, 0, none⟩) sz cap, .int .i64 lo, .int .i64 m, .int .i64 hi, sortFn pc] w (MergeDoes W blk b lo hi d)

/-- Behind the search: rotate, then both halves. -/
theorem sym_tail (W : World) (blk cap pc sz lo m hi mid s e n : Nat) (b : Bool) (d : Array Tg) (ih : Merges W blk cap pc sz b n) (hn : hi - lo ≤ n) (hs : d.size = sz) (hf : Fit b d) (h63 : sz ≤ 4611686018427387903) (ham : lo + 1 < m) (hmh : m + 1 < hi) (hh : hi ≤ sz) (hmid : mid = (lo + hi) / 2)
    (s1 : SortedIn (ltB b) lo m d) (s2 : SortedIn (ltB b) m hi d) (ht : Apart lo m hi d) (has : lo ≤ s) (hsm : s ≤ m) (hme : m ≤ e) (heh : e ≤ hi) (hse : s + (e - m) = mid)
    (k1 : s = lo ∨ e = hi ∨ LeB b d[s - 1]! d[e]!) (k2 : s = m ∨ e = m ∨ LeB b d[e - 1]! d[s]!)
    {Q : Exit → Act → World → Prop} {a : Act} {w : World} (h : Hold 220 [(0, .val (.slice (some ⟨blk, 0, none⟩) sz cap)), (1, .val (.int .i64 ((lo : Nat) : Int))), (2, .val (.int .i64 ((m : Nat) : Int))), (3, .val (.int .i64 ((hi : Nat) : Int))), (4, .val (sortFn pc)), (18, .val (.int .i64 ((mid : Nat) : Int))), (20, .val (.int .i64 ((s : Nat) : Int))), (24, .val (.int .i64 ((e : Nat) : Int)))] w a w) (hst : St W blk d w)
    (fin : ∀ a w d', St W blk d' w → PermIn lo hi d d' → SortedIn (ltB b) lo hi d' → a.defers = [] → Q .normal a w) :
    (Code.seq (.seq (.region 39 sy39Ops false) (.cond (.tmp 185) (.region 40 sy40Ops false) .skip)) (.seq (.seq (.region 41 sy41Ops false) (.cond (.tmp 199) (.region 42 sy42Ops false) .skip)) (.seq (.region 43 sy43Ops false) (.cond (.tmp 213) (.region 44 sy44Ops false) .skip)))).wp Tryd.prog Q a w := by
  -- the right half
  have right : ∀ (a : Act) (w : World) (d1 d2 : Array Tg), PermIn lo hi d d1 → PermIn lo mid d1 d2 → SortedIn (ltB b) lo mid d2 → Halves b lo s mid e hi d1 → Hold 220 [(0, .val (.slice (some ⟨blk, 0, none⟩) sz cap)), (1, .val (.int .i64 ((lo : Nat) : Int))), (2, .val (.int .i64 ((m : Nat) : Int))), (3, .val (.int .i64 ((hi : Nat) : Int))), (4, .val (sortFn pc)), (18, .val (.int .i64 ((mid : Nat) : Int))), (20, .val (.int .i64 ((s : Nat) : Int))), (24, .val (.int .i64 ((e : Nat) : Int)))] w a w → St W blk d2 w → (Code.seq (.region 43 sy43Ops false) (.cond (.tmp 213) (.region 44 sy44Ops false) .skip)).wp Tryd.prog Q a w := by
    intro a w d1 d2 p1 p2 so H h hst
    have z1 := p1.1
    have z2 := p2.1
    obtain ⟨q1, q2, q3⟩ := H.keepRight (by omega) p2
    have join : ∀ d3, PermIn mid hi d2 d3 → SortedIn (ltB b) mid hi d3 → PermIn lo hi d d3 ∧ SortedIn (ltB b) lo hi d3 := fun d3 p3 s3 => by
      have := halves_join (by omega) (by omega) (by omega) H.cross p2 so p3 s3
      exact ⟨permIn_trans _ _ _ _ _ p1 this.1, this.2⟩
    refine wp_seq ?_
    by_cases g1 : mid < e
    · by_cases g2 : e < hi
      · refine sy43y_region blk cap pc sz lo m hi mid s e g1 g2 h ?_
        intro a w' h'
        have hst' := hst.below h'.world
        have h := h'.here
        refine env_cond (b := true) rfl h ?_
        have h := h.keep [0, 1, 2, 3, 4, 18, 20, 24]
        refine sy44c_call blk cap pc sz lo m hi mid s e h (fun w2 hb => ih mid e hi d2 w2 (by omega) (by omega) g1 g2 hh ((hf.perm p1 (by omega)).perm p2 (by omega)) q1 q2 q3 (hst'.below hb)) ?_
        rintro x w2 ⟨rfl, d3, hst3, p3, s3⟩
        refine ⟨rfl, fun a' h' => ?_⟩
        exact fin a' w2 d3 hst3 (join d3 p3 s3).1 (join d3 p3 s3).2 h'.defers
      · refine sy43f_region blk cap pc sz lo m hi mid s e g1 g2 h ?_
        intro a w' h'
        have hst' := hst.below h'.world
        refine env_cond (b := false) rfl h'.here ?_
        refine wp_skip ?_
        obtain rfl : e = hi := by omega
        have := join d2 (permIn_refl _ _ _) q1
        exact fin a w' d2 hst' this.1 this.2 h'.defers
    · refine sy43n_region blk cap pc sz lo m hi mid s e g1 h ?_
      intro a w' h'
      have hst' := hst.below h'.world
      refine env_cond (b := false) rfl h'.here ?_
      refine wp_skip ?_
      obtain rfl : e = mid := by omega
      have := join d2 (permIn_refl _ _ _) q2
      exact fin a w' d2 hst' this.1 this.2 h'.defers
  -- the left half
  have left : ∀ (a : Act) (w : World) (d1 : Array Tg), PermIn lo hi d d1 → (∀ k, d1[k]! = d[rotI s (m - s) (e - m) k]!) → Hold 220 [(0, .val (.slice (some ⟨blk, 0, none⟩) sz cap)), (1, .val (.int .i64 ((lo : Nat) : Int))), (2, .val (.int .i64 ((m : Nat) : Int))), (3, .val (.int .i64 ((hi : Nat) : Int))), (4, .val (sortFn pc)), (18, .val (.int .i64 ((mid : Nat) : Int))), (20, .val (.int .i64 ((s : Nat) : Int))), (24, .val (.int .i64 ((e : Nat) : Int)))] w a w → St W blk d1 w → (Code.seq (.seq (.region 41 sy41Ops false) (.cond (.tmp 199) (.region 42 sy42Ops false) .skip)) (.seq (.region 43 sy43Ops false) (.cond (.tmp 213) (.region 44 sy44Ops false) .skip))).wp Tryd.prog Q a w := by
    intro a w d1 p1 hrot h hst
    have H := halves b lo m hi s e d d1 s1 s2 ht has hsm hme heh hrot k1 k2
    rw [hse] at H
    have z1 := p1.1
    refine wp_seq ?_
    refine wp_seq ?_
    by_cases g1 : lo < s
    · by_cases g2 : s < mid
      · refine sy41y_region blk cap pc sz lo m hi mid s e g1 g2 h ?_
        intro a w' h'
        have hst' := hst.below h'.world
        have h := h'.here
        refine env_cond (b := true) rfl h ?_
        have h := h.keep [0, 1, 2, 3, 4, 18, 20, 24]
        refine sy42c_call blk cap pc sz lo m hi mid s e h (fun w2 hb => ih lo s mid d1 w2 (by omega) (by omega) g1 g2 (by omega) (hf.perm p1 (by omega)) H.l1 H.l2 H.tl (hst'.below hb)) ?_
        rintro x w2 ⟨rfl, d2, hst2, p2, so⟩
        refine ⟨rfl, fun a' h' => ?_⟩
        exact right a' w2 d1 d2 p1 p2 so H h' hst2
      · refine sy41f_region blk cap pc sz lo m hi mid s e g1 g2 h ?_
        intro a w' h'
        have hst' := hst.below h'.world
        have h := h'.here
        refine env_cond (b := false) rfl h ?_
        refine wp_skip ?_
        have hq : s = mid := by omega
        refine right a w' d1 d1 p1 (permIn_refl _ _ _) ?_ H (h.keep [0, 1, 2, 3, 4, 18, 20, 24]) hst'
        have := H.l1
        rw [hq] at this
        exact this
    · refine sy41n_region blk cap pc sz lo m hi mid s e g1 h ?_
      intro a w' h'
      have hst' := hst.below h'.world
      have h := h'.here
      refine env_cond (b := false) rfl h ?_
      refine wp_skip ?_
      have hq : s = lo := by omega
      refine right a w' d1 d1 p1 (permIn_refl _ _ _) ?_ H (h.keep [0, 1, 2, 3, 4, 18, 20, 24]) hst'
      have := H.l2
      rw [hq] at this
      exact this
  have same : (s = m ∨ e = m) → ∀ k, d[k]! = d[rotI s (m - s) (e - m) k]! := fun h k => by
    congr 1
    unfold rotI
    split
    · omega
    · split <;> omega
  refine wp_seq ?_
  refine wp_seq ?_
  by_cases g1 : s < m
  · by_cases g2 : m < e
    · refine sy39y_region blk cap pc sz lo m hi mid s e g1 g2 h ?_
      intro a w' h'
      have hst' := hst.below h'.world
      have h := h'.here
      refine env_cond (b := true) rfl h ?_
      have h := h.keep [0, 1, 2, 3, 4, 18, 20, 24]
      refine sy40c_call blk cap pc sz lo m hi mid s e h (fun w2 hb => rotate_any W blk cap s m e sz d (sortFn pc) w2 hs (by omega) g1 g2 (by omega) (hst'.below hb)) ?_
      rintro x w2 ⟨rfl, d1, hst1, p1, hrot⟩
      refine ⟨rfl, fun a' h' => ?_⟩
      exact left a' w2 d1 (permIn_mono _ _ s e lo hi has heh (by omega) p1) hrot h' hst1
    · refine sy39f_region blk cap pc sz lo m hi mid s e g1 g2 h ?_
      intro a w' h'
      have hst' := hst.below h'.world
      have h := h'.here
      refine env_cond (b := false) rfl h ?_
      refine wp_skip ?_
      exact left a w' d (permIn_refl _ _ _) (same (.inr (by omega))) (h.keep [0, 1, 2, 3, 4, 18, 20, 24]) hst'
  · refine sy39n_region blk cap pc sz lo m hi mid s e g1 h ?_
    intro a w' h'
    have hst' := hst.below h'.world
    have h := h'.here
    refine env_cond (b := false) rfl h ?_
    refine wp_skip ?_
    exact left a w' d (permIn_refl _ _ _) (same (.inl (by omega))) (h.keep [0, 1, 2, 3, 4, 18, 20, 24]) hst'

theorem sym_split (W : World) (blk cap pc sz lo m hi n : Nat) (b : Bool) (d : Array Tg) (w : World) (C : CmpC W blk pc b) (ih : Merges W blk cap pc sz b n) (hn : hi - lo ≤ n) (hs : d.size = sz) (hf : Fit b d) (h63 : sz ≤ 4611686018427387903) (ham : lo + 1 < m) (hmh : m + 1 < hi) (hh : hi ≤ sz)
    (s1 : SortedIn (ltB b) lo m d) (s2 : SortedIn (ltB b) m hi d) (ht : Apart lo m hi d) (hst : St W blk d w) :
    Calls Tryd.prog 81 #[.slice (some ⟨blk, 0, none⟩) sz cap, .int .i64 lo, .int .i64 m, .int .i64 hi, sortFn pc] w (MergeDoes W blk b lo hi d) := by
  unfold MergeDoes
  refine calls_of_wp Tryd.func81 sy_body ?_
  obtain ⟨v0, hv0⟩ : ∃ v : Value, v = .slice (some ⟨blk, 0, none⟩) sz cap := ⟨_, rfl⟩
  obtain ⟨v1, hv1⟩ : ∃ v : Value, v = .int .i64 (lo : Int) := ⟨_, rfl⟩
  obtain ⟨v2, hv2⟩ : ∃ v : Value, v = .int .i64 (m : Int) := ⟨_, rfl⟩
  obtain ⟨v3, hv3⟩ : ∃ v : Value, v = .int .i64 (hi : Int) := ⟨_, rfl⟩
  obtain ⟨v4, hv4⟩ : ∃ v : Value, v = sortFn pc := ⟨_, rfl⟩
  rw [← hv0, ← hv1, ← hv2, ← hv3, ← hv4]
  have hk0 : (Kd.val (.slice (some ⟨blk, 0, none⟩) sz cap)).R v0 w := hv0
  have hk1 : (Kd.val (.int .i64 ((lo : Nat) : Int))).R v1 w := hv1
  have hk2 : (Kd.val (.int .i64 ((m : Nat) : Int))).R v2 w := hv2
  have hk3 : (Kd.val (.int .i64 ((hi : Nat) : Int))).R v3 w := hv3
  have hk4 : (Kd.val (sortFn pc)).R v4 w := hv4
  have hsN : (#[v0, v1, v2, v3, v4] ++ Array.replicate (Tryd.f81.ntmps - #[v0, v1, v2, v3, v4].size) undef : Array Value).size = 220 := by kernel_rfl
  have gs0 : (#[v0, v1, v2, v3, v4] ++ Array.replicate (Tryd.f81.ntmps - #[v0, v1, v2, v3, v4].size) undef : Array Value).getD 0 undef = v0 := by kernel_rfl
  have gs1 : (#[v0, v1, v2, v3, v4] ++ Array.replicate (Tryd.f81.ntmps - #[v0, v1, v2, v3, v4].size) undef : Array Value).getD 1 undef = v1 := by kernel_rfl
  have gs2 : (#[v0, v1, v2, v3, v4] ++ Array.replicate (Tryd.f81.ntmps - #[v0, v1, v2, v3, v4].size) undef : Array Value).getD 2 undef = v2 := by kernel_rfl
  have gs3 : (#[v0, v1, v2, v3, v4] ++ Array.replicate (Tryd.f81.ntmps - #[v0, v1, v2, v3, v4].size) undef : Array Value).getD 3 undef = v3 := by kernel_rfl
  have gs4 : (#[v0, v1, v2, v3, v4] ++ Array.replicate (Tryd.f81.ntmps - #[v0, v1, v2, v3, v4].size) undef : Array Value).getD 4 undef = v4 := by kernel_rfl
  generalize (#[v0, v1, v2, v3, v4] ++ Array.replicate (Tryd.f81.ntmps - #[v0, v1, v2, v3, v4].size) undef : Array Value) = tm at hsN gs0 gs1 gs2 gs3 gs4 ⊢
  refine wp_seq ?_
  refine wp_seq ?_
  refine sy0_region blk cap pc sz lo m hi (by omega) (by omega) (by omega) hh ham (w0 := w) ⟨hsN, rfl, Below.refl _ _, (slots_cons 0 (by rw [gs0]; exact hk0) (slots_cons 1 (by rw [gs1]; exact hk1) (slots_cons 2 (by rw [gs2]; exact hk2) (slots_cons 3 (by rw [gs3]; exact hk3) (slots_cons 4 (by rw [gs4]; exact hk4) slots_nil)))))⟩ ?_
  intro a w1 h
  have hst := hst.below h.world
  refine env_cond (b := false) rfl h.here ?_
  refine wp_skip ?_
  have h := h.here.keep [0, 1, 2, 3, 4]
  show Code.wp _ _ _ a w1
  refine wp_seq ?_
  refine wp_seq ?_
  refine sy12_region blk cap pc sz lo m hi (by omega) (by omega) (by omega) hh hmh h ?_
  intro a w2 h
  have hst := hst.below h.world
  refine env_cond (b := false) rfl h.here ?_
  refine wp_skip ?_
  have h := h.here.keep [0, 1, 2, 3, 4]
  show Code.wp _ _ _ a w2
  refine wp_seq ?_
  refine sy24_region blk cap pc sz lo m hi (by omega) (by omega) (by omega) hh h ?_
  intro a w3 h
  have hst := hst.below h.world
  obtain ⟨mid, hmid⟩ : ∃ mid, mid = (lo + hi) / 2 := ⟨_, rfl⟩
  rw [← hmid] at h
  have h := h.here
  show Code.wp _ _ _ a w3
  refine wp_seq ?_
  refine sy25_region blk cap pc sz lo m hi mid (by omega) (by omega) (by omega) hh hmid h ?_
  intro a w4 h
  have hst := hst.below h.world
  have h := h.here
  show Code.wp _ _ _ a w4
  refine wp_seq ?_
  refine sy26_region blk cap pc sz lo m hi mid (by omega) (by omega) (by omega) hh hmid h ?_
  intro a w5 h
  have hst := hst.below h.world
  have h := h.here
  show Code.wp _ _ _ a w5
  refine wp_seq ?_
  refine wp_seq ?_
  refine sy27_region blk cap pc sz lo m hi mid (by omega) (by omega) (by omega) hh hmid h ?_
  intro a w6 h
  have hst := hst.below h.world
  have h := h.here
  -- from the search on
  have go : ∀ (a : Act) (w : World) (lo0 r0 : Nat), mid + m ≤ lo0 + hi → r0 ≤ mid → lo ≤ lo0 → lo0 ≤ r0 → r0 ≤ m → (lo0 = lo ∨ lo0 + hi = mid + m) → (r0 = m ∨ r0 = mid) → St W blk d w → Hold 220 [(0, .val (.slice (some ⟨blk, 0, none⟩) sz cap)), (1, .val (.int .i64 ((lo : Nat) : Int))), (2, .val (.int .i64 ((m : Nat) : Int))), (3, .val (.int .i64 ((hi : Nat) : Int))), (4, .val (sortFn pc)), (18, .val (.int .i64 ((mid : Nat) : Int))), (19, .val (.int .i64 ((mid + m : Nat) : Int))), (20, .val (.int .i64 ((lo0 : Nat) : Int))), (21, .val (.int .i64 ((r0 : Nat) : Int)))] w a w →
      (Code.seq (.region 32 sy32Ops false) (.seq (.block 8 (.loop (.seq (.seq (.region 33 sy33Ops false) (.cond (.tmp 151) .skip (.exit 8))) (.block 9 (.seq (.region 34 sy34Ops false) (.seq (.region 35 sy35Ops true) (.cond (.tmp 171) (.region 36 sy36Ops false) (.region 37 sy37Ops false)))))))) (.seq (.region 38 sy38Ops false) (.seq (.seq (.region 39 sy39Ops false) (.cond (.tmp 185) (.region 40 sy40Ops false) .skip)) (.seq (.seq (.region 41 sy41Ops false) (.cond (.tmp 199) (.region 42 sy42Ops false) .skip)) (.seq (.region 43 sy43Ops false) (.cond (.tmp 213) (.region 44 sy44Ops false) .skip))))))).wp Tryd.prog (bodyPost Tryd.prog Tryd.f81 fun e w' => e = .returned (.tuple #[]) ∧ ∃ d', St W blk d' w' ∧ PermIn lo hi d d' ∧ SortedIn (ltB b) lo hi d') a w := by
    intro a w lo0 r0 f1 f2 f3 f4 f5 f6 f7 hst h
    refine wp_seq ?_
    refine sy32_region blk cap pc sz lo m hi mid lo0 r0 (by omega) (by omega) (by omega) hh hmid h ?_
    intro a w h'
    have hst := hst.below h'.world
    have h := h'.here
    show Code.wp _ _ _ a w
    refine wp_seq ?_
    refine sym_search W blk cap pc sz lo m hi mid b d C hs hf (by omega) (by omega) (by omega) hh hmid lo0 r0 f1 (by omega) f3 f4 f5 (by omega) h hst ?_
    intro s a w g1 g2 k1 k2 hst h
    show Code.wp _ _ _ a w
    refine wp_seq ?_
    refine sy38_region blk cap pc sz lo m hi mid s (by omega) (by omega) (by omega) hh hmid (by omega) h ?_
    intro a w h'
    have hst := hst.below h'.world
    have h := h'.here
    obtain ⟨e, he⟩ : ∃ e, e = mid + m - s := ⟨_, rfl⟩
    rw [← he] at h k1 k2
    have h := h.keep [0, 1, 2, 3, 4, 18, 20, 24]
    show Code.wp _ _ _ a w
    refine sym_tail W blk cap pc sz lo m hi mid s e n b d ih hn hs hf h63 ham hmh hh hmid s1 s2 ht (by omega) (by omega) (by omega) (by omega) (by omega) ?_ ?_ h hst ?_
    · by_cases q1 : s = lo
      · exact .inl q1
      · by_cases q2 : e = hi
        · exact .inr (.inl q2)
        · rcases k1 with k1 | k1
          · omega
          · exact .inr (.inr (LeB.of_nonneg k1 (ht (s - 1) e (by omega) (by omega) (by omega) (by omega))))
    · by_cases q1 : s = m
      · exact .inl q1
      · by_cases q2 : e = m
        · exact .inr (.inl q2)
        · rcases k2 with k2 | k2
          · omega
          · exact .inr (.inr (LeB.of_neg k2))
    · intro a w d' hst' p so hdf
      exact bodyPost_end (results_none rfl _ _ _) hdf ⟨rfl, d', hst', p, so⟩
  by_cases hm : mid < m
  · have hb : decide ((mid : Int) < (m : Int)) = true := decide_eq_true (by omega)
    rw [hb] at h
    refine env_cond (b := true) rfl h ?_
    have h := h.keep [0, 1, 2, 3, 4, 18, 19]
    show Code.wp _ _ _ a w6
    refine wp_seq ?_
    refine sy28_region blk cap pc sz lo m hi mid (by omega) (by omega) (by omega) hh hmid hm h ?_
    intro a w7 h
    have hst := hst.below h.world
    have h := h.here
    show Code.wp _ _ _ a w7
    refine sy29_region blk cap pc sz lo m hi mid (by omega) (by omega) (by omega) hh hmid hm h ?_
    intro a w8 h
    have hst := hst.below h.world
    exact go a w8 (mid + m - hi) mid (by omega) (by omega) (by omega) (by omega) (by omega) (.inr (by omega)) (.inr rfl) hst h.here
  · have hb : decide ((mid : Int) < (m : Int)) = false := decide_eq_false (by omega)
    rw [hb] at h
    refine env_cond (b := false) rfl h ?_
    have h := h.keep [0, 1, 2, 3, 4, 18, 19]
    show Code.wp _ _ _ a w6
    refine wp_seq ?_
    refine sy30_region blk cap pc sz lo m hi mid (by omega) (by omega) (by omega) hh hmid h ?_
    intro a w7 h
    have hst := hst.below h.world
    have h := h.here
    show Code.wp _ _ _ a w7
    refine sy31_region blk cap pc sz lo m hi mid (by omega) (by omega) (by omega) hh hmid h ?_
    intro a w8 h
    have hst := hst.below h.world
    exact go a w8 lo m (by omega) (by omega) (by omega) (by omega) (by omega) (.inl rfl) (.inl rfl) hst h.here
theorem merge_up (W : World) (blk cap pc sz : Nat) (b : Bool) (C : CmpC W blk pc b) (h63 : sz ≤ 4611686018427387903) (n : Nat) : Merges W blk cap pc sz b n := by
  induction n with
  | zero => intro lo m hi d w hn; omega
  | succ n ih =>
    intro lo m hi d w hn hs ham hmh hh hf s1 s2 ht hst
    by_cases h1 : m = lo + 1
    · have s2' := s2
      have ht' := ht
      rw [h1] at s2' ht'
      exact sym_left W blk pc cap lo m hi sz h1 b d w C hs h63 (by omega) hh hf s2' ht' hst
    · by_cases h2 : hi = m + 1
      · exact sym_right W blk pc cap lo m hi sz h2 (by omega) b d w C hs h63 hh hf s1 ht hst
      · exact sym_split W blk cap pc sz lo m hi n b d w C ih (by omega) hs hf h63 (by omega) (by omega) hh s1 s2 ht hst
end Go.Proofs.YtcjakmafojbhlaaDoor
namespace Go.Proofs.YtcjakmafojbhlaaDoor
set_option linter.unusedVariables false
set_option linter.unusedSimpArgs false
open Go.RowKit
open Go.Sort (PermIn SortedIn swp permIn_all permIn_refl permIn_trans permIn_mono swp_permIn)

/-! ### blocks of g elements -/
/-- The numbers of what lies before a block lie below those of what lies from it on. -/
def Cut (g n : Nat) (d : Array Tg) : Prop := ∀ q i j, i < g * q → g * q ≤ j → j < n → d[i]!.2 < d[j]!.2
/-- Each block is sorted. -/
def Srt (b : Bool) (g n : Nat) (d : Array Tg) : Prop := ∀ q, SortedIn (ltB b) (g * q) (min (g * (q + 1)) n) d
theorem cut_of_rise {g n : Nat} {d : Array Tg} (h : Rise 0 n d) : Cut g n d := fun q i j h1 h2 h3 => h i j (Nat.zero_le _) (by omega) h3
theorem cut_double {g n : Nat} {d : Array Tg} (h : Cut g n d) : Cut (2 * g) n d := fun q i j h1 h2 h3 => by
  have e : 2 * g * q = g * (2 * q) := by rw [Nat.mul_comm 2 g, Nat.mul_assoc]
  rw [e] at h1 h2
  exact h (2 * q) i j h1 h2 h3
theorem cut_perm {g q n A B : Nat} {d d' : Array Tg} (hA : A = g * q) (hB : B ≤ g * (q + 1)) (hBn : B ≤ n) (hn : n ≤ d.size) (h : Cut g n d) (p : PermIn A B d d') : Cut g n d' := by
  intro r i j h1 h2 h3
  by_cases hr : r ≤ q
  · have hm : g * r ≤ g * q := Nat.mul_le_mul_left g hr
    rw [p.2.1 i (by omega)]
    by_cases hj : A ≤ j ∧ j < B
    · exact permIn_all d d' A B (fun t => d[i]!.2 < t.2) (by omega) p (fun x hx hx2 => h r i x h1 (by omega) (by omega)) j hj.1 hj.2
    · rw [p.2.1 j (by omega)]
      exact h r i j h1 h2 h3
  · have hm : g * (q + 1) ≤ g * r := Nat.mul_le_mul_left g (by omega)
    rw [p.2.1 j (by omega)]
    by_cases hi : A ≤ i ∧ i < B
    · exact permIn_all d d' A B (fun t => t.2 < d[j]!.2) (by omega) p (fun x hx hx2 => h r x j (by omega) h2 h3) i hi.1 hi.2
    · rw [p.2.1 i (by omega)]
      exact h r i j h1 h2 h3
/-- The blocks before the q-th are sorted. -/
def Done (b : Bool) (g q : Nat) (d : Array Tg) : Prop := ∀ r, r < q → SortedIn (ltB b) (g * r) (g * (r + 1)) d
theorem done_next {b : Bool} {g q A B : Nat} {d d' : Array Tg} (hA : A = g * q) (hB : B = g * (q + 1)) (h : Done b g q d) (p : PermIn A B d d') (hs : SortedIn (ltB b) A B d') : Done b g (q + 1) d' := by
  intro r hr
  by_cases e : r = q
  · subst e; subst hA; subst hB; exact hs
  · have hm : g * (r + 1) ≤ g * q := Nat.mul_le_mul_left g (by omega)
    intro i j h1 h2 h3
    rw [p.2.1 i (by omega), p.2.1 j (by omega)]
    exact h r (by omega) i j h1 h2 h3
theorem srt_of_done {b : Bool} {g q n A : Nat} {d : Array Tg} (hA : A = g * q) (hAn : A ≤ n) (hn : n < A + g) (h : Done b g q d) (hs : SortedIn (ltB b) A n d) : Srt b g n d := by
  have e1 : g * (q + 1) = A + g := by rw [hA, Nat.mul_add, Nat.mul_one]
  intro r
  by_cases h1 : r < q
  · have hm : g * (r + 1) ≤ g * q := Nat.mul_le_mul_left g (by omega)
    rw [Nat.min_eq_left (by omega)]
    exact h r h1
  · by_cases h2 : r = q
    · subst h2
      rw [Nat.min_eq_right (by omega), ← hA]
      exact hs
    · have hm : g * (q + 1) ≤ g * r := Nat.mul_le_mul_left g (by omega)
      intro i j h3 h4 h5
      have := Nat.min_le_right (g * (r + 1)) n
      omega
theorem done_keep {b : Bool} {g q A B : Nat} {d d' : Array Tg} (hA : A = g * q) (h : Done b g q d) (p : PermIn A B d d') : Done b g q d' := by
  intro r hr
  have hm : g * (r + 1) ≤ g * q := Nat.mul_le_mul_left g (by omega)
  intro i j h1 h2 h3
  rw [p.2.1 i (by omega), p.2.1 j (by omega)]
  exact h r hr i j h1 h2 h3
/-- In a block of twice the size: the two halves. -/
theorem halves_of {b : Bool} {g q n A B : Nat} {d dk : Array Tg} (hA : A = 2 * g * q) (hB : B ≤ A + 2 * g) (hBn : B ≤ n) (hs : Srt b g n d) (hc : Cut g n d) (he : ∀ k, A ≤ k → dk[k]! = d[k]!) (hm : A + g ≤ B) :
    SortedIn (ltB b) A (A + g) dk ∧ SortedIn (ltB b) (A + g) B dk ∧ Apart A (A + g) B dk := by
  have e0 : g * (2 * q) = A := by rw [hA, Nat.mul_comm 2 g, Nat.mul_assoc]
  have e1 : g * (2 * q + 1) = A + g := by rw [Nat.mul_add, e0, Nat.mul_one]
  have e2 : g * (2 * q + 1 + 1) = A + g + g := by rw [Nat.mul_add, e1, Nat.mul_one]
  refine ⟨fun i j h1 h2 h3 => ?_, fun i j h1 h2 h3 => ?_, fun i j h1 h2 h3 h4 => ?_⟩
  · rw [he i (by omega), he j (by omega)]
    have := hs (2 * q)
    rw [e0, e1, Nat.min_eq_left (by omega)] at this
    exact this i j h1 h2 h3
  · rw [he i (by omega), he j (by omega)]
    have := hs (2 * q + 1)
    rw [e1, e2] at this
    exact this i j h1 h2 (by have : B ≤ min (A + g + g) n := Nat.le_min.2 ⟨by omega, hBn⟩; omega)
  · rw [he i (by omega), he j (by omega)]
    exact hc (2 * q + 1) i j (by rw [e1]; exact h2) (by rw [e1]; exact h3) (by omega)
theorem half_of {b : Bool} {g q n A : Nat} {d dk : Array Tg} (hA : A = 2 * g * q) (hn : n ≤ A + g) (hs : Srt b g n d) (he : ∀ k, A ≤ k → dk[k]! = d[k]!) : SortedIn (ltB b) A n dk := by
  have e0 : g * (2 * q) = A := by rw [hA, Nat.mul_comm 2 g, Nat.mul_assoc]
  have e1 : g * (2 * q + 1) = A + g := by rw [Nat.mul_add, e0, Nat.mul_one]
  intro i j h1 h2 h3
  rw [he i (by omega), he j (by omega)]
  have := hs (2 * q)
  rw [e0, e1, Nat.min_eq_right (by omega)] at this
  exact this i j h1 h2 h3

set_option maxHeartbeats 4000000 in
set_option maxRecDepth 100000 in
theorem stable_any (W : World) (blk pc cap n : Nat) (b : Bool) (d : Array Tg) (w : World) (C : CmpC W blk pc b) (hs : d.size = n) (hn : n ≤ 100000) (hf : Fit b d) (hr : Rise 0 n d) (h : St W blk d w) :
    Calls Tryd.prog 77 #[.slice (some ⟨blk, 0, none⟩) n cap, .int .i64 n, sortFn pc] w (MergeDoes W blk b 0 n d) := by
  unfold MergeDoes
  have HST := Lib.hid h
  have HS := Lib.hid hs
  have HF := Lib.hid hf
  have HR := Lib.hid hr
  have INS := Lib.hid fun (lo hi : Nat) (dk : Array Tg) (w1 : World) (h1 : dk.size = n) (h2 : lo ≤ hi) (h3 : hi ≤ n) (h4 : Fit b dk) (h5 : St W blk dk w1) => insertion_any W blk pc cap lo hi n b dk w1 C h1 (by omega) h2 h3 h4 h5
  have MRG := Lib.hid fun (lo m hi : Nat) (dk : Array Tg) (w1 : World) (h1 : dk.size = n) (h2 : lo < m) (h3 : m < hi) (h4 : hi ≤ n) (h5 : Fit b dk) (h6 : SortedIn (ltB b) lo m dk) (h7 : SortedIn (ltB b) m hi dk) (h8 : Apart lo m hi dk) (h9 : St W blk dk w1) => merge_up W blk cap pc n b C (by omega) (hi - lo + 1) lo m hi dk w1 (by omega) h1 h2 h3 h4 h5 h6 h7 h8 h9
  clear h hs hf hr C
  go_enter Tryd.func77, Tryd.ntmps77
  go_wp2_with fail
  go_loopw [7, 8] (fun u v wr => ∃ (q A : Nat) (dk : Array Tg), u = .int .i64 A ∧ v = .int .i64 (A + 20 : Nat) ∧ A = 20 * q ∧ A ≤ n ∧ dk.size = n ∧ St W blk dk wr ∧ Hid (PermIn 0 n d dk ∧ Fit b dk ∧ Cut 20 n dk ∧ Done b 20 q dk ∧ ∀ k, A ≤ k → dk[k]! = d[k]!)) (fun u _ _ => n - (Lib.intOf u).toNat)
  case atStart => exact ⟨0, 0, d, rfl, rfl, rfl, Nat.zero_le _, HS.out, HST.out, permIn_refl _ _ _, HF.out, cut_of_rise HR.out, fun r hr => by omega, fun k _ => rfl⟩
  case round =>
    obtain ⟨q, A, dk, rfl, rfl, hA, hAn, hsk, hst, HI⟩ := hrel
    have HSTK := Lib.hid hst
    have HAq := Lib.hid hA
    clear hst hA
    by_cases hle : A + 20 ≤ n
    · have hlez : (A : Int) + 20 ≤ (n : Int) := by omega
      go_wp2_with fail
      rw [show (A : Int) + 20 = ((A + 20 : Nat) : Int) by omega]
      refine (INS.out A (A + 20) dk _ hsk (by omega) (by omega) HI.out.2.1 HSTK.out).mono ?_
      rintro e w1 ⟨rfl, hst1, hf1⟩
      have HST1 := Lib.hid hst1
      have HF1 := Lib.hid hf1
      clear hst1 hf1
      have hA2 : A + 20 = 20 * (q + 1) := by have := HAq.out; omega
      obtain ⟨d2, hd2⟩ : ∃ d2, d2 = Go.Sort.insertionSort (ltC b) dk A (A + 20) := ⟨_, rfl⟩
      rw [← hd2] at HST1 HF1
      have hsr := insertion_sorts b A (A + 20) dk (by omega) (by omega) (fun i j h1 h2 h3 => by rw [HI.out.2.2.2.2 i h1, HI.out.2.2.2.2 j (by omega)]; exact HR.out i j (by omega) h2 (by omega))
      rw [← hd2] at hsr
      have HI2 : Hid (PermIn 0 n d d2 ∧ Fit b d2 ∧ Cut 20 n d2 ∧ Done b 20 (q + 1) d2 ∧ ∀ k, A + 20 ≤ k → d2[k]! = d[k]!) := by
        have hp0 := HI.out.1.1
        have hsd := HS.out
        exact ⟨permIn_trans _ _ _ _ _ HI.out.1 (permIn_mono _ _ A (A + 20) 0 n (by omega) (by omega) (by omega) hsr.1), HF1.out, cut_perm HAq.out (by omega) hle (by omega) HI.out.2.2.1 hsr.1, done_next HAq.out hA2 HI.out.2.2.2.1 hsr.1 hsr.2, fun k hk => by rw [hsr.1.2.1 k (by omega)]; exact HI.out.2.2.2.2 k (by omega)⟩
      have hs2 : d2.size = n := by rw [hsr.1.1]; exact hsk
      have HA2 := Lib.hid hA2
      clear hsr hd2 hA2 HI
      go_wp2_with fail
      exact ⟨⟨q + 1, A + 20, d2, by go_num, by go_num, HA2.out, hle, hs2, HST1.out, HI2⟩, by simp [Lib.intOf]; omega⟩
    · have hlez : ¬ (A : Int) + 20 ≤ (n : Int) := by omega
      go_wp2_with fail
      refine (INS.out A n dk _ hsk (by omega) (by omega) HI.out.2.1 HSTK.out).mono ?_
      rintro e w1 ⟨rfl, hst1, hf1⟩
      have HST1 := Lib.hid hst1
      have HF1 := Lib.hid hf1
      clear hst1 hf1
      obtain ⟨d2, hd2⟩ : ∃ d2, d2 = Go.Sort.insertionSort (ltC b) dk A n := ⟨_, rfl⟩
      rw [← hd2] at HST1 HF1
      have hsr := insertion_sorts b A n dk (by omega) (by omega) (fun i j h1 h2 h3 => by rw [HI.out.2.2.2.2 i h1, HI.out.2.2.2.2 j (by omega)]; exact HR.out i j (by omega) h2 h3)
      rw [← hd2] at hsr
      have HI2 : Hid (PermIn 0 n d d2 ∧ Fit b d2 ∧ Cut 20 n d2 ∧ Srt b 20 n d2) := by
        have hp0 := HI.out.1.1
        have hsd := HS.out
        have hA0 := HAq.out
        exact ⟨permIn_trans _ _ _ _ _ HI.out.1 (permIn_mono _ _ A n 0 n (by omega) (by omega) (by omega) hsr.1), HF1.out, cut_perm HAq.out (by omega) (by omega) (by omega) HI.out.2.2.1 hsr.1, srt_of_done HAq.out hAn (by omega) (done_keep HAq.out HI.out.2.2.2.1 hsr.1) hsr.2⟩
      have hs2 : d2.size = n := by rw [hsr.1.1]; exact hsk
      clear hsr hd2 HI hsk HF1
      go_wp2_with fail
      go_loopg [6] n (fun g1 u wr => ∃ (g : Nat) (dk : Array Tg), u = .int .i64 g ∧ 0 < g ∧ g ≤ 2 * n + 20 ∧ n + 1 - g ≤ g1 + 1 ∧ dk.size = n ∧ St W blk dk wr ∧ Hid (PermIn 0 n d dk ∧ Fit b dk ∧ Cut g n dk ∧ Srt b g n dk))
      case atStart => exact ⟨20, d2, rfl, by omega, by omega, by omega, hs2, HST1.out, HI2⟩
      case round =>
        obtain ⟨g, d0, rfl, hg0, hgn, hg1, hs0, hst0, HJ⟩ := hrel
        have HST0 := Lib.hid hst0
        clear hst0
        by_cases hlt : g < n
        · have hltz : (g : Int) < (n : Int) := by omega
          go_wp2
          go_loopg [7, 8] n (fun g2 u v wr => ∃ (q A : Nat) (dk : Array Tg), u = .int .i64 A ∧ v = .int .i64 (A + 2 * g : Nat) ∧ A ≤ n ∧ n + 1 - A ≤ g2 + 1 ∧ dk.size = n ∧ St W blk dk wr ∧ Hid (A = 2 * g * q) ∧ Hid (PermIn 0 n d dk ∧ Fit b dk ∧ Cut (2 * g) n dk ∧ Done b (2 * g) q dk ∧ ∀ k, A ≤ k → dk[k]! = d0[k]!))
          case atStart => exact ⟨0, 0, d0, rfl, by go_num, Nat.zero_le _, by omega, hs0, HST0.out, rfl, HJ.out.1, HJ.out.2.1, cut_double HJ.out.2.2.1, fun r hr => by omega, fun k _ => rfl⟩
          case round =>
            obtain ⟨q, A, dk, rfl, rfl, hAn, hg2, hsk, hst, HA, HI⟩ := hrel
            have HSTK := Lib.hid hst
            clear hst
            by_cases hle : A + 2 * g ≤ n
            · have hlez : (A : Int) + 2 * (g : Int) ≤ (n : Int) := by omega
              go_wp2_with fail
              rw [show (A : Int) + (g : Int) = ((A + g : Nat) : Int) by omega]
              have hv := halves_of (A := A) (B := A + 2 * g) HA.out (by omega) hle HJ.out.2.2.2 HJ.out.2.2.1 HI.out.2.2.2.2 (by omega)
              try rw [show (A : Int) + 2 * (g : Int) = ((A + 2 * g : Nat) : Int) by omega]
              refine (MRG.out A (A + g) (A + 2 * g) dk _ hsk (by omega) (by omega) hle HI.out.2.1 hv.1 hv.2.1 hv.2.2 HSTK.out).mono ?_
              clear hv
              rintro e w2 ⟨rfl, d3, hst3, p3, s3⟩
              have HST3 := Lib.hid hst3
              have hA2 : A + 2 * g = 2 * g * (q + 1) := by rw [Nat.mul_add, Nat.mul_one, ← HA.out]
              have hs3 : d3.size = n := by rw [p3.1]; exact hsk
              have HI3 : Hid (PermIn 0 n d d3 ∧ Fit b d3 ∧ Cut (2 * g) n d3 ∧ Done b (2 * g) (q + 1) d3 ∧ ∀ k, A + 2 * g ≤ k → d3[k]! = d0[k]!) :=
                ⟨permIn_trans _ _ _ _ _ HI.out.1 (permIn_mono _ _ A (A + 2 * g) 0 n (by omega) (by omega) (by omega) p3), HI.out.2.1.perm p3 (by omega), cut_perm HA.out (by omega) hle (by omega) HI.out.2.2.1 p3, done_next HA.out hA2 HI.out.2.2.2.1 p3 s3, fun k hk => by rw [p3.2.1 k (by omega)]; exact HI.out.2.2.2.2 k (by omega)⟩
              have HA3 := Lib.hid hA2
              clear hst3 p3 s3 hA2
              go_wp2_with fail
              go_roundg (n - (A + 2 * g))
              case measure => omega
              case rel => exact ⟨q + 1, A + 2 * g, d3, by go_num, by go_num, hle, by omega, hs3, HST3.out, HA3.out, HI3⟩
            · have hlez : ¬ (A : Int) + 2 * (g : Int) ≤ (n : Int) := by omega
              by_cases hm : A + g < n
              · have hmz : (A : Int) + (g : Int) < (n : Int) := by omega
                go_wp2_with fail
                try rw [show (A : Int) + (g : Int) = ((A + g : Nat) : Int) by omega]
                have hv := halves_of (A := A) (B := n) HA.out (by omega) (Nat.le_refl _) HJ.out.2.2.2 HJ.out.2.2.1 HI.out.2.2.2.2 (by omega)
                refine (MRG.out A (A + g) n dk _ hsk (by omega) (by omega) (Nat.le_refl _) HI.out.2.1 hv.1 hv.2.1 hv.2.2 HSTK.out).mono ?_
                clear hv
                rintro e w2 ⟨rfl, d3, hst3, p3, s3⟩
                have HST3 := Lib.hid hst3
                have hs3 : d3.size = n := by rw [p3.1]; exact hsk
                have hB : n ≤ 2 * g * (q + 1) := by rw [Nat.mul_add, Nat.mul_one, ← HA.out]; omega
                have HI3 : Hid (PermIn 0 n d d3 ∧ Fit b d3 ∧ Cut (2 * g) n d3 ∧ Srt b (2 * g) n d3) :=
                  ⟨permIn_trans _ _ _ _ _ HI.out.1 (permIn_mono _ _ A n 0 n (by omega) (by omega) (by omega) p3), HI.out.2.1.perm p3 (by omega), cut_perm HA.out hB (Nat.le_refl _) (by omega) HI.out.2.2.1 p3, srt_of_done HA.out hAn (by omega) (done_keep HA.out HI.out.2.2.2.1 p3) s3⟩
                clear hst3 p3 s3 hB
                go_wp2_with fail
                go_roundg (n - 2 * g)
                case measure => omega
                case rel => exact ⟨2 * g, d3, by go_num, by omega, by omega, by omega, hs3, HST3.out, HI3⟩
              · have hmz : ¬ (A : Int) + (g : Int) < (n : Int) := by omega
                have HI3 : Hid (PermIn 0 n d dk ∧ Fit b dk ∧ Cut (2 * g) n dk ∧ Srt b (2 * g) n dk) :=
                  ⟨HI.out.1, HI.out.2.1, HI.out.2.2.1, srt_of_done HA.out hAn (by omega) HI.out.2.2.2.1 (half_of HA.out (by omega) HJ.out.2.2.2 HI.out.2.2.2.2)⟩
                go_wp2_with fail
                go_roundg (n - 2 * g)
                case measure => omega
                case rel => exact ⟨2 * g, dk, by go_num, by omega, by omega, by omega, hsk, HSTK.out, HI3⟩
        · have hltz : ¬ (g : Int) < (n : Int) := by omega
          go_wp2
          go_end0
          refine ⟨rfl, d0, HST0.out, HJ.out.1, ?_⟩
          have := HJ.out.2.2.2 0
          rw [Nat.mul_zero, Nat.min_eq_right (by omega)] at this
          exact this
end Go.Proofs.YtcjakmafojbhlaaDoor
