/-
  BallsShape: the region that writes a variable into the error term's own row.
-/
import Derived.Test.YtapcnehpechkpaaShape8
import Derived.Test.YtapcnehpechkpaaPair
namespace Go.Proofs.Ytapcnehpechkpaa
set_option linter.unusedVariables false
set_option linter.unusedSimpArgs false
set_option maxRecDepth 100000
open Go.RowKit
theorem below_set4 {B : Nat} {a w : World} (h : Below B a w) {b o : Nat} {p : Pay} {A : Option Addr} {n c : Nat} (hb : B ≤ b) : Below B a (set4 w b o p A n c) :=
  h.trans ⟨rfl, rfl, rfl, by rw [set4_size]; exact Nat.le_refl _, fun k hk => set4_block w b o p A n c k (by omega)⟩
theorem Four.on {w w' : World} {b o : Nat} (h : Four w b o) (hb : Below w.heap.size w w') (hlt : b < w.heap.size) : Four w' b o :=
  ⟨by rw [hb.cell (p := ⟨b, o, none⟩) hlt]; exact h.c0, by rw [hb.cell (p := ⟨b, o + 1, none⟩) hlt]; exact h.c1, by rw [hb.cell (p := ⟨b, o + 2, none⟩) hlt]; exact h.c2, by rw [hb.cell (p := ⟨b, o + 3, none⟩) hlt]; exact h.c3⟩
theorem NodeAt.four {S : Nat → Prop} {w : World} {b o c : Nat} {p : Pay} {l : Fo} {A : Option Addr} (h : NodeAt S w b o p l A c) : Four w b o := ⟨by rw [h.kind]; rfl, by rw [h.num]; rfl, by rw [h.name]; rfl, by rw [h.args]; rfl⟩
theorem run_store_off {a : Act} {x y : Operand} {ty : TypeId} {pos : String} {after : Array Edge} {guard : Option (Nat × Bool)} (w : World) (g o : Nat) (p : Pay) (A : Option Addr) (n c : Nat) (hx : a.eval x = .pointer (some ⟨g, o, none⟩)) (hy : a.eval y = tv p A n c) (hf : Four w g o) (hs : SoftB w g) :
    (execOp a.eval ⟨none, .store 24 x y, ty, pos, after, guard⟩).run Try.prog w = .ok .skip (set4 w g o p A n c) := by
  have f0 := hs o
  have f1 := hs (o + 1)
  have f2 := hs (o + 2)
  have f3 := hs (o + 3)
  obtain ⟨h0, h1, h2, h3⟩ := hf
  obtain ⟨v0, y0⟩ := Option.isSome_iff_exists.1 h0
  obtain ⟨v1, y1⟩ := Option.isSome_iff_exists.1 h1
  obtain ⟨v2, y2⟩ := Option.isSome_iff_exists.1 h2
  obtain ⟨v3, y3⟩ := Option.isSome_iff_exists.1 h3
  clear h0 h1 h2 h3 hs
  unfold execOp
  simp only [hx, hy]
  go_simp
section
variable {ops : Array Oper} {Q : Exit → Act → World → Prop} {N : Nat} {env : Env} {w0 w : World} {a : Act}
theorem wpOps_storeOff {i x y n c b o : Nat} {p : Pay} {A : Option Addr} {rest : List Nat} (hop : (ops[i]?).map (fun o => (o.op, o.dst, o.guard)) = some (.store 24 (.tmp x) (.tmp y), none, none)) (ex : a.tmps.getD x undef = .pointer (some ⟨b, o, none⟩)) (ey : a.tmps.getD y undef = tv p A n c) (hf : Four w b o) (hsoft : SoftB w b)
    (h : wpOps Try.prog ops Q rest a (set4 w b o p A n c)) : wpOps Try.prog ops Q (i :: rest) a w := by
  cases ho : ops[i]? with
  | none => rw [ho] at hop; cases hop
  | some op' =>
  rw [ho] at hop
  have hop := Option.some.inj hop
  obtain ⟨dst, op, ty, pos, after, guard⟩ := op'
  simp only [Prod.mk.injEq] at hop
  obtain ⟨e1, e2, e3⟩ := hop
  subst e1 e2 e3
  have hrun := run_store_off (a := a) (x := .tmp x) (y := .tmp y) (ty := ty) (pos := pos) (after := after) (guard := none) w b o p A n c ex ey hf hsoft
  simp only [wpOps, ho, wanted_free (o := ⟨none, .store 24 (.tmp x) (.tmp y), ty, pos, after, none⟩) rfl, if_true]
  refine .inl ?_
  unfold Oper.wp
  rw [hrun]
  exact h
end
section
variable {ops : Array Oper} {Q : Exit → Act → World → Prop} {E : Nat → Kd} {D : Nat → Nat} {base : Nat → Option Kd} {N : Nat}
theorem step_vlen {i n c : Nat} {x : Operand} {A : Option Addr} (hop : (ops[i]?).map (·.op) = some (.call { callee := .builtin .len, args := #[x], argTypes := #[50] })) (hx : Opd ops E D base N i x (.val (.slice A n c))) (hE : E i = .val (.int .i64 ((n : Nat) : Int))) : Step Try.prog ops Q E D base N i :=
  step_still hop hE fun a w h dst ty' pos after guard => by
    have e : a.eval x = .slice A n c := hx a w h
    refine ⟨.int .i64 ((n : Nat) : Int), ?_, rfl⟩
    unfold execOp
    have e2 : (#[x] : Array Operand).map a.eval = #[.slice A n c] := by rw [← e]; simp
    simp only [e2]
    go_simp
    try rfl
theorem step_vx0 {i : Nat} (hop : (ops[i]?).map (·.op) = some (.call { callee := .value (.func 55), args := #[.const (.int .i64 0)], argTypes := #[2] })) (hE : E i = .val (tv (0, 0, ByteArray.empty) none 0 0)) : Step Try.prog ops Q E D base N i :=
  step_call hop (fun _ _ => by kernel_rfl) fun a w h => by
    rw [show (#[.const (.int .i64 0)] : Array Operand).map a.eval = #[.int .i64 0] by simp [Act.eval]]
    exact (x_any 0 w).mono fun e w' ⟨he, hb⟩ => ⟨_, he, by rw [hE]; rfl, hb⟩
end
noncomputable def sh24Ops : Array Oper := ((Try.f7.body).bind (findReg 24)).getD #[]
def sh24Ds : List Nat := [172, 173, 174, 175, 176, 177, 178, 179, 180]
def sh24Env (s0 s1 : ByteArray) (v5 v7 v8 v15 : Value) (x : Nat → Value) (NA : Option Addr) (n cc r b1 o c' b6 o6 n1 c1 : Nat) (sw : World) : Env := [(0, .val (.string s0)), (1, .val (.string s1)), (5, .val v5), (7, .val v7), (8, .val v8), (15, .val v15), (10, .val (.pointer (some ⟨r, 0, none⟩))), (11, .val (.slice NA n cc)), (2, .val (x 2)), (3, .val (x 3)), (4, .val (x 4)), (17, .val (x 17)), (18, .val (x 18)), (19, .val (x 19)), (20, .val (x 20)), (21, .val (x 21)), (22, .val (x 22)), (23, .val (x 23)), (24, .val (x 24)), (25, .val (x 25)), (26, .val (x 26)), (27, .val (x 27)), (28, .val (x 28)), (29, .val (x 29)), (30, .val (x 30)), (31, .val (x 31)), (32, .val (x 32)), (193, .val (x 193)), (990, .sat (aft sw))]
def sh24Es (s0 s1 : ByteArray) (v5 v7 v8 v15 : Value) (x : Nat → Value) (NA : Option Addr) (n cc r b1 o c' b6 o6 n1 c1 : Nat) (sw : World) : List Kd := [.val (.pointer (some ⟨r, 0 + 3, none⟩)), .val (.slice (some ⟨b1, o, none⟩) 2 c'), .val (.pointer (some ⟨b1, o + 0 * 4, none⟩)), .val (.pointer (some ⟨b1, o + 0 * 4 + 3, none⟩)), .val (.slice (some ⟨b6, o6, none⟩) n1 c1), .val (.slice NA n cc), .val (.int .i64 ((n : Nat) : Int)), .val (tv (0, 0, ByteArray.empty) none 0 0), .val (.pointer (some ⟨b6, o6 + n * 4, none⟩))]
theorem sh24_0 {Q : Exit → Act → World → Prop} (s0 s1 : ByteArray) (v5 v7 v8 v15 : Value) (x : Nat → Value) (NA : Option Addr) (n cc r b1 o c' b6 o6 n1 c1 : Nat) (sw : World) (hn : n < n1) (hr : r < sw.heap.size) (hb1 : b1 < sw.heap.size) (hz3 : sw.cell? ⟨r, 3, none⟩ = some (.slice (some ⟨b1, o, none⟩) 2 c')) (hk3 : sw.cell? ⟨b1, o + 3, none⟩ = some (.slice (some ⟨b6, o6, none⟩) n1 c1)) : RStep (strip sh24Ops) Q (fun i => ((sh24Es s0 s1 v5 v7 v8 v15 x NA n cc r b1 o c' b6 o6 n1 c1 sw)[i]?).getD .any) (fun i => (sh24Ds[i]?).getD (1000 + i)) (look (sh24Env s0 s1 v5 v7 v8 v15 x NA n cc r b1 o c' b6 o6 n1 c1 sw)) 194 0 := fun _ => step_vfield3 (by kernel_rfl) (Opd.of_base 10 rfl) rfl
theorem sh24_1 {Q : Exit → Act → World → Prop} (s0 s1 : ByteArray) (v5 v7 v8 v15 : Value) (x : Nat → Value) (NA : Option Addr) (n cc r b1 o c' b6 o6 n1 c1 : Nat) (sw : World) (hn : n < n1) (hr : r < sw.heap.size) (hb1 : b1 < sw.heap.size) (hz3 : sw.cell? ⟨r, 3, none⟩ = some (.slice (some ⟨b1, o, none⟩) 2 c')) (hk3 : sw.cell? ⟨b1, o + 3, none⟩ = some (.slice (some ⟨b6, o6, none⟩) n1 c1)) : RStep (strip sh24Ops) Q (fun i => ((sh24Es s0 s1 v5 v7 v8 v15 x NA n cc r b1 o c' b6 o6 n1 c1 sw)[i]?).getD .any) (fun i => (sh24Ds[i]?).getD (1000 + i)) (look (sh24Env s0 s1 v5 v7 v8 v15 x NA n cc r b1 o c' b6 o6 n1 c1 sw)) 194 1 := fun _ => step_vload_row (ad := ⟨r, 3, none⟩) hr hz3 (by kernel_rfl) (Opd.dep 0 rfl rfl (by kernel_rfl)) (Opd.of_base 990 rfl) rfl
theorem sh24_2 {Q : Exit → Act → World → Prop} (s0 s1 : ByteArray) (v5 v7 v8 v15 : Value) (x : Nat → Value) (NA : Option Addr) (n cc r b1 o c' b6 o6 n1 c1 : Nat) (sw : World) (hn : n < n1) (hr : r < sw.heap.size) (hb1 : b1 < sw.heap.size) (hz3 : sw.cell? ⟨r, 3, none⟩ = some (.slice (some ⟨b1, o, none⟩) 2 c')) (hk3 : sw.cell? ⟨b1, o + 3, none⟩ = some (.slice (some ⟨b6, o6, none⟩) n1 c1)) : RStep (strip sh24Ops) Q (fun i => ((sh24Es s0 s1 v5 v7 v8 v15 x NA n cc r b1 o c' b6 o6 n1 c1 sw)[i]?).getD .any) (fun i => (sh24Ds[i]?).getD (1000 + i)) (look (sh24Env s0 s1 v5 v7 v8 v15 x NA n cc r b1 o c' b6 o6 n1 c1 sw)) 194 2 := fun _ => step_vindex (k := 0) (by decide) (by kernel_rfl) (Opd.dep 1 rfl rfl (by kernel_rfl)) (Opd.const _) rfl
theorem sh24_3 {Q : Exit → Act → World → Prop} (s0 s1 : ByteArray) (v5 v7 v8 v15 : Value) (x : Nat → Value) (NA : Option Addr) (n cc r b1 o c' b6 o6 n1 c1 : Nat) (sw : World) (hn : n < n1) (hr : r < sw.heap.size) (hb1 : b1 < sw.heap.size) (hz3 : sw.cell? ⟨r, 3, none⟩ = some (.slice (some ⟨b1, o, none⟩) 2 c')) (hk3 : sw.cell? ⟨b1, o + 3, none⟩ = some (.slice (some ⟨b6, o6, none⟩) n1 c1)) : RStep (strip sh24Ops) Q (fun i => ((sh24Es s0 s1 v5 v7 v8 v15 x NA n cc r b1 o c' b6 o6 n1 c1 sw)[i]?).getD .any) (fun i => (sh24Ds[i]?).getD (1000 + i)) (look (sh24Env s0 s1 v5 v7 v8 v15 x NA n cc r b1 o c' b6 o6 n1 c1 sw)) 194 3 := fun _ => step_vfield3 (by kernel_rfl) (Opd.dep 2 rfl rfl (by kernel_rfl)) rfl
theorem sh24_4 {Q : Exit → Act → World → Prop} (s0 s1 : ByteArray) (v5 v7 v8 v15 : Value) (x : Nat → Value) (NA : Option Addr) (n cc r b1 o c' b6 o6 n1 c1 : Nat) (sw : World) (hn : n < n1) (hr : r < sw.heap.size) (hb1 : b1 < sw.heap.size) (hz3 : sw.cell? ⟨r, 3, none⟩ = some (.slice (some ⟨b1, o, none⟩) 2 c')) (hk3 : sw.cell? ⟨b1, o + 3, none⟩ = some (.slice (some ⟨b6, o6, none⟩) n1 c1)) : RStep (strip sh24Ops) Q (fun i => ((sh24Es s0 s1 v5 v7 v8 v15 x NA n cc r b1 o c' b6 o6 n1 c1 sw)[i]?).getD .any) (fun i => (sh24Ds[i]?).getD (1000 + i)) (look (sh24Env s0 s1 v5 v7 v8 v15 x NA n cc r b1 o c' b6 o6 n1 c1 sw)) 194 4 := fun _ => step_vload_row (ad := ⟨b1, o + 3, none⟩) hb1 hk3 (by kernel_rfl) (Opd.dep 3 rfl rfl (by kernel_rfl)) (Opd.of_base 990 rfl) rfl
theorem sh24_5 {Q : Exit → Act → World → Prop} (s0 s1 : ByteArray) (v5 v7 v8 v15 : Value) (x : Nat → Value) (NA : Option Addr) (n cc r b1 o c' b6 o6 n1 c1 : Nat) (sw : World) (hn : n < n1) (hr : r < sw.heap.size) (hb1 : b1 < sw.heap.size) (hz3 : sw.cell? ⟨r, 3, none⟩ = some (.slice (some ⟨b1, o, none⟩) 2 c')) (hk3 : sw.cell? ⟨b1, o + 3, none⟩ = some (.slice (some ⟨b6, o6, none⟩) n1 c1)) : RStep (strip sh24Ops) Q (fun i => ((sh24Es s0 s1 v5 v7 v8 v15 x NA n cc r b1 o c' b6 o6 n1 c1 sw)[i]?).getD .any) (fun i => (sh24Ds[i]?).getD (1000 + i)) (look (sh24Env s0 s1 v5 v7 v8 v15 x NA n cc r b1 o c' b6 o6 n1 c1 sw)) 194 5 := fun _ => step_move (by kernel_rfl) (Opd.of_base 11 rfl) rfl
theorem sh24_6 {Q : Exit → Act → World → Prop} (s0 s1 : ByteArray) (v5 v7 v8 v15 : Value) (x : Nat → Value) (NA : Option Addr) (n cc r b1 o c' b6 o6 n1 c1 : Nat) (sw : World) (hn : n < n1) (hr : r < sw.heap.size) (hb1 : b1 < sw.heap.size) (hz3 : sw.cell? ⟨r, 3, none⟩ = some (.slice (some ⟨b1, o, none⟩) 2 c')) (hk3 : sw.cell? ⟨b1, o + 3, none⟩ = some (.slice (some ⟨b6, o6, none⟩) n1 c1)) : RStep (strip sh24Ops) Q (fun i => ((sh24Es s0 s1 v5 v7 v8 v15 x NA n cc r b1 o c' b6 o6 n1 c1 sw)[i]?).getD .any) (fun i => (sh24Ds[i]?).getD (1000 + i)) (look (sh24Env s0 s1 v5 v7 v8 v15 x NA n cc r b1 o c' b6 o6 n1 c1 sw)) 194 6 := fun _ => step_vlen (by kernel_rfl) (Opd.dep 5 rfl rfl (by kernel_rfl)) rfl
theorem sh24_7 {Q : Exit → Act → World → Prop} (s0 s1 : ByteArray) (v5 v7 v8 v15 : Value) (x : Nat → Value) (NA : Option Addr) (n cc r b1 o c' b6 o6 n1 c1 : Nat) (sw : World) (hn : n < n1) (hr : r < sw.heap.size) (hb1 : b1 < sw.heap.size) (hz3 : sw.cell? ⟨r, 3, none⟩ = some (.slice (some ⟨b1, o, none⟩) 2 c')) (hk3 : sw.cell? ⟨b1, o + 3, none⟩ = some (.slice (some ⟨b6, o6, none⟩) n1 c1)) : RStep (strip sh24Ops) Q (fun i => ((sh24Es s0 s1 v5 v7 v8 v15 x NA n cc r b1 o c' b6 o6 n1 c1 sw)[i]?).getD .any) (fun i => (sh24Ds[i]?).getD (1000 + i)) (look (sh24Env s0 s1 v5 v7 v8 v15 x NA n cc r b1 o c' b6 o6 n1 c1 sw)) 194 7 := fun _ => step_vx0 (by kernel_rfl) rfl
theorem sh24_8 {Q : Exit → Act → World → Prop} (s0 s1 : ByteArray) (v5 v7 v8 v15 : Value) (x : Nat → Value) (NA : Option Addr) (n cc r b1 o c' b6 o6 n1 c1 : Nat) (sw : World) (hn : n < n1) (hr : r < sw.heap.size) (hb1 : b1 < sw.heap.size) (hz3 : sw.cell? ⟨r, 3, none⟩ = some (.slice (some ⟨b1, o, none⟩) 2 c')) (hk3 : sw.cell? ⟨b1, o + 3, none⟩ = some (.slice (some ⟨b6, o6, none⟩) n1 c1)) : RStep (strip sh24Ops) Q (fun i => ((sh24Es s0 s1 v5 v7 v8 v15 x NA n cc r b1 o c' b6 o6 n1 c1 sw)[i]?).getD .any) (fun i => (sh24Ds[i]?).getD (1000 + i)) (look (sh24Env s0 s1 v5 v7 v8 v15 x NA n cc r b1 o c' b6 o6 n1 c1 sw)) 194 8 := fun _ => step_vindex (k := n) hn (by kernel_rfl) (Opd.dep 4 rfl rfl (by kernel_rfl)) (Opd.dep 6 rfl rfl (by kernel_rfl)) rfl
theorem sh24_walk {Q : Exit → Act → World → Prop} {ops : Array Oper} (hops : ops = sh24Ops) (s0 s1 : ByteArray) {v5 v7 v8 v15 X2 X3 X4 X6 X9 X12 X13 X14 X16 X17 X18 X19 X20 X21 X22 X23 X24 X25 X26 X27 X28 X29 X30 X31 X32 X33 X34 X35 X36 X37 X38 X39 X40 X41 X42 X43 X44 X45 X46 X47 X48 X49 X50 X51 X52 X53 X54 X55 X56 X57 X58 X59 X60 X61 X62 X63 X64 X65 X66 X67 X68 X69 X70 X71 X72 X73 X74 X75 X76 X77 X78 X79 X80 X81 X82 X83 X84 X85 X86 X87 X88 X89 X90 X91 X92 X93 X94 X95 X96 X97 X98 X99 X100 X101 X102 X103 X104 X105 X106 X107 X108 X109 X110 X111 X112 X113 X114 X115 X116 X117 X118 X119 X120 X121 X122 X123 X124 X125 X126 X127 X128 X129 X130 X131 X132 X133 X134 X135 X136 X137 X138 X139 X140 X141 X142 X143 X144 X145 X146 X147 X148 X149 X150 X151 X152 X153 X154 X155 X156 X157 X158 X159 X160 X161 X162 X163 X164 X165 X166 X167 X168 X169 X170 X171 X172 X173 X174 X175 X176 X177 X178 X179 X180 X181 X182 X183 X184 X185 X186 X187 X188 X189 X190 X191 X192 X193 : Value} {NA : Option Addr} (n : Nat) {cc : Nat} (r b1 o c' b6 o6 n1 c1 : Nat) (sw : World) {a : Act} (hn : n < n1) (hr : r < sw.heap.size) (hb1 : b1 < sw.heap.size) (hz3 : sw.cell? ⟨r, 3, none⟩ = some (.slice (some ⟨b1, o, none⟩) 2 c')) (hk3 : sw.cell? ⟨b1, o + 3, none⟩ = some (.slice (some ⟨b6, o6, none⟩) n1 c1))
    (ha : a = ⟨#[.string s0, .string s1, X2, X3, X4, v5, X6, v7, v8, X9, .pointer (some ⟨r, 0, none⟩), .slice NA n cc, X12, X13, X14, v15, X16, X17, X18, X19, X20, X21, X22, X23, X24, X25, X26, X27, X28, X29, X30, X31, X32, X33, X34, X35, X36, X37, X38, X39, X40, X41, X42, X43, X44, X45, X46, X47, X48, X49, X50, X51, X52, X53, X54, X55, X56, X57, X58, X59, X60, X61, X62, X63, X64, X65, X66, X67, X68, X69, X70, X71, X72, X73, X74, X75, X76, X77, X78, X79, X80, X81, X82, X83, X84, X85, X86, X87, X88, X89, X90, X91, X92, X93, X94, X95, X96, X97, X98, X99, X100, X101, X102, X103, X104, X105, X106, X107, X108, X109, X110, X111, X112, X113, X114, X115, X116, X117, X118, X119, X120, X121, X122, X123, X124, X125, X126, X127, X128, X129, X130, X131, X132, X133, X134, X135, X136, X137, X138, X139, X140, X141, X142, X143, X144, X145, X146, X147, X148, X149, X150, X151, X152, X153, X154, X155, X156, X157, X158, X159, X160, X161, X162, X163, X164, X165, X166, X167, X168, X169, X170, X171, X172, X173, X174, X175, X176, X177, X178, X179, X180, X181, X182, X183, X184, X185, X186, X187, X188, X189, X190, X191, X192, X193], []⟩)
    (hb6 : b6 < sw.heap.size) (hf : Four sw b6 (o6 + n * 4)) (hs : SoftB sw b6)
    (hQ : ∀ (u : Nat → Value) (W : World), (∀ B, B ≤ b6 → B ≤ sw.heap.size → Below B sw W) → (∀ b, b < sw.heap.size → b ≠ b6 → W.heap[b]? = sw.heap[b]?) → sw.heap.size ≤ W.heap.size → Q .normal ⟨#[.string s0, .string s1, X2, X3, X4, v5, u 6, v7, v8, u 9, u 10, u 11, u 12, u 13, u 14, v15, u 16, X17, X18, X19, X20, X21, X22, X23, X24, X25, X26, X27, X28, X29, X30, X31, X32, u 33, u 34, u 35, u 36, u 37, u 38, u 39, u 40, u 41, u 42, u 43, u 44, u 45, u 46, u 47, u 48, u 49, u 50, u 51, u 52, u 53, u 54, u 55, u 56, u 57, u 58, u 59, u 60, u 61, u 62, u 63, u 64, u 65, u 66, u 67, u 68, u 69, u 70, u 71, u 72, u 73, u 74, u 75, u 76, u 77, u 78, u 79, u 80, u 81, u 82, u 83, u 84, u 85, u 86, u 87, u 88, u 89, u 90, u 91, u 92, u 93, u 94, u 95, u 96, u 97, u 98, u 99, u 100, u 101, u 102, u 103, u 104, u 105, u 106, u 107, u 108, u 109, u 110, u 111, u 112, u 113, u 114, u 115, u 116, u 117, u 118, u 119, u 120, u 121, u 122, u 123, u 124, u 125, u 126, u 127, u 128, u 129, u 130, u 131, u 132, u 133, u 134, u 135, u 136, u 137, u 138, u 139, u 140, u 141, u 142, u 143, u 144, u 145, u 146, u 147, u 148, u 149, u 150, u 151, u 152, u 153, u 154, u 155, u 156, u 157, u 158, u 159, u 160, u 161, u 162, u 163, u 164, u 165, u 166, u 167, u 168, u 169, u 170, u 171, u 172, u 173, u 174, u 175, u 176, u 177, u 178, u 179, u 180, u 181, u 182, u 183, u 184, u 185, u 186, u 187, u 188, u 189, u 190, u 191, u 192, X193], []⟩ W) : (Code.region 24 ops true).wp Try.prog Q a sw := by
  subst hops
  subst ha
  obtain ⟨x, hx⟩ : ∃ x : Nat → Value, x = fun i => (#[.string s0, .string s1, X2, X3, X4, v5, X6, v7, v8, X9, .pointer (some ⟨r, 0, none⟩), .slice NA n cc, X12, X13, X14, v15, X16, X17, X18, X19, X20, X21, X22, X23, X24, X25, X26, X27, X28, X29, X30, X31, X32, X33, X34, X35, X36, X37, X38, X39, X40, X41, X42, X43, X44, X45, X46, X47, X48, X49, X50, X51, X52, X53, X54, X55, X56, X57, X58, X59, X60, X61, X62, X63, X64, X65, X66, X67, X68, X69, X70, X71, X72, X73, X74, X75, X76, X77, X78, X79, X80, X81, X82, X83, X84, X85, X86, X87, X88, X89, X90, X91, X92, X93, X94, X95, X96, X97, X98, X99, X100, X101, X102, X103, X104, X105, X106, X107, X108, X109, X110, X111, X112, X113, X114, X115, X116, X117, X118, X119, X120, X121, X122, X123, X124, X125, X126, X127, X128, X129, X130, X131, X132, X133, X134, X135, X136, X137, X138, X139, X140, X141, X142, X143, X144, X145, X146, X147, X148, X149, X150, X151, X152, X153, X154, X155, X156, X157, X158, X159, X160, X161, X162, X163, X164, X165, X166, X167, X168, X169, X170, X171, X172, X173, X174, X175, X176, X177, X178, X179, X180, X181, X182, X183, X184, X185, X186, X187, X188, X189, X190, X191, X192, X193] : Array Value).getD i undef := ⟨_, rfl⟩
  have h : Hold 194 (sh24Env s0 s1 v5 v7 v8 v15 x NA n cc r b1 o c' b6 o6 n1 c1 sw) sw ⟨#[.string s0, .string s1, X2, X3, X4, v5, X6, v7, v8, X9, .pointer (some ⟨r, 0, none⟩), .slice NA n cc, X12, X13, X14, v15, X16, X17, X18, X19, X20, X21, X22, X23, X24, X25, X26, X27, X28, X29, X30, X31, X32, X33, X34, X35, X36, X37, X38, X39, X40, X41, X42, X43, X44, X45, X46, X47, X48, X49, X50, X51, X52, X53, X54, X55, X56, X57, X58, X59, X60, X61, X62, X63, X64, X65, X66, X67, X68, X69, X70, X71, X72, X73, X74, X75, X76, X77, X78, X79, X80, X81, X82, X83, X84, X85, X86, X87, X88, X89, X90, X91, X92, X93, X94, X95, X96, X97, X98, X99, X100, X101, X102, X103, X104, X105, X106, X107, X108, X109, X110, X111, X112, X113, X114, X115, X116, X117, X118, X119, X120, X121, X122, X123, X124, X125, X126, X127, X128, X129, X130, X131, X132, X133, X134, X135, X136, X137, X138, X139, X140, X141, X142, X143, X144, X145, X146, X147, X148, X149, X150, X151, X152, X153, X154, X155, X156, X157, X158, X159, X160, X161, X162, X163, X164, X165, X166, X167, X168, X169, X170, X171, X172, X173, X174, X175, X176, X177, X178, X179, X180, X181, X182, X183, X184, X185, X186, X187, X188, X189, X190, X191, X192, X193], []⟩ sw := ⟨by kernel_rfl, rfl, Below.refl _ _, slots_cons 0 (k0 := .val (.string s0)) (by show (_ : Value) = _; rfl) (slots_cons 1 (k0 := .val (.string s1)) (by show (_ : Value) = _; rfl) (slots_cons 5 (k0 := .val (v5)) (by show (_ : Value) = _; rfl) (slots_cons 7 (k0 := .val (v7)) (by show (_ : Value) = _; rfl) (slots_cons 8 (k0 := .val (v8)) (by show (_ : Value) = _; rfl) (slots_cons 15 (k0 := .val (v15)) (by show (_ : Value) = _; rfl) (slots_cons 10 (k0 := .val (.pointer (some ⟨r, 0, none⟩))) (by show (_ : Value) = _; rfl) (slots_cons 11 (k0 := .val (.slice NA n cc)) (by show (_ : Value) = _; rfl) (slots_cons 2 (k0 := .val (x 2)) (by show (_ : Value) = _; rw [hx]) (slots_cons 3 (k0 := .val (x 3)) (by show (_ : Value) = _; rw [hx]) (slots_cons 4 (k0 := .val (x 4)) (by show (_ : Value) = _; rw [hx]) (slots_cons 17 (k0 := .val (x 17)) (by show (_ : Value) = _; rw [hx]) (slots_cons 18 (k0 := .val (x 18)) (by show (_ : Value) = _; rw [hx]) (slots_cons 19 (k0 := .val (x 19)) (by show (_ : Value) = _; rw [hx]) (slots_cons 20 (k0 := .val (x 20)) (by show (_ : Value) = _; rw [hx]) (slots_cons 21 (k0 := .val (x 21)) (by show (_ : Value) = _; rw [hx]) (slots_cons 22 (k0 := .val (x 22)) (by show (_ : Value) = _; rw [hx]) (slots_cons 23 (k0 := .val (x 23)) (by show (_ : Value) = _; rw [hx]) (slots_cons 24 (k0 := .val (x 24)) (by show (_ : Value) = _; rw [hx]) (slots_cons 25 (k0 := .val (x 25)) (by show (_ : Value) = _; rw [hx]) (slots_cons 26 (k0 := .val (x 26)) (by show (_ : Value) = _; rw [hx]) (slots_cons 27 (k0 := .val (x 27)) (by show (_ : Value) = _; rw [hx]) (slots_cons 28 (k0 := .val (x 28)) (by show (_ : Value) = _; rw [hx]) (slots_cons 29 (k0 := .val (x 29)) (by show (_ : Value) = _; rw [hx]) (slots_cons 30 (k0 := .val (x 30)) (by show (_ : Value) = _; rw [hx]) (slots_cons 31 (k0 := .val (x 31)) (by show (_ : Value) = _; rw [hx]) (slots_cons 32 (k0 := .val (x 32)) (by show (_ : Value) = _; rw [hx]) (slots_cons 193 (k0 := .val (x 193)) (by show (_ : Value) = _; rw [hx]) (slots_cons 990 (k0 := .sat (aft sw)) (Below.refl _ _) slots_nil))))))))))))))))))))))))))))⟩
  have hall : ∀ i, i < 0 → RStep (strip sh24Ops) Q (fun i => ((sh24Es s0 s1 v5 v7 v8 v15 x NA n cc r b1 o c' b6 o6 n1 c1 sw)[i]?).getD .any) (fun i => (sh24Ds[i]?).getD (1000 + i)) (look (sh24Env s0 s1 v5 v7 v8 v15 x NA n cc r b1 o c' b6 o6 n1 c1 sw)) 194 i := fun i hi => absurd hi (by omega)
  have hall := below_succ hall (sh24_0 s0 s1 v5 v7 v8 v15 x NA n cc r b1 o c' b6 o6 n1 c1 sw hn hr hb1 hz3 hk3)
  have hall := below_succ hall (sh24_1 s0 s1 v5 v7 v8 v15 x NA n cc r b1 o c' b6 o6 n1 c1 sw hn hr hb1 hz3 hk3)
  have hall := below_succ hall (sh24_2 s0 s1 v5 v7 v8 v15 x NA n cc r b1 o c' b6 o6 n1 c1 sw hn hr hb1 hz3 hk3)
  have hall := below_succ hall (sh24_3 s0 s1 v5 v7 v8 v15 x NA n cc r b1 o c' b6 o6 n1 c1 sw hn hr hb1 hz3 hk3)
  have hall := below_succ hall (sh24_4 s0 s1 v5 v7 v8 v15 x NA n cc r b1 o c' b6 o6 n1 c1 sw hn hr hb1 hz3 hk3)
  have hall := below_succ hall (sh24_5 s0 s1 v5 v7 v8 v15 x NA n cc r b1 o c' b6 o6 n1 c1 sw hn hr hb1 hz3 hk3)
  have hall := below_succ hall (sh24_6 s0 s1 v5 v7 v8 v15 x NA n cc r b1 o c' b6 o6 n1 c1 sw hn hr hb1 hz3 hk3)
  have hall := below_succ hall (sh24_7 s0 s1 v5 v7 v8 v15 x NA n cc r b1 o c' b6 o6 n1 c1 sw hn hr hb1 hz3 hk3)
  have hall := below_succ hall (sh24_8 s0 s1 v5 v7 v8 v15 x NA n cc r b1 o c' b6 o6 n1 c1 sw hn hr hb1 hz3 hk3)
  refine env_then (m := 9) (n := 10) sh24Ds (sh24Es s0 s1 v5 v7 v8 v15 x NA n cc r b1 o c' b6 o6 n1 c1 sw) rfl (by kernel_rfl) (by decide) (by kernel_rfl) (of_decide_eq_true (by kernel_rfl)) (by kernel_rfl) (by kernel_rfl) (fun i_ hi_ => hall i_ hi_) h fun a' w' h' => ?_
  clear hall h
  have hb := h'.world
  show wpOps Try.prog _ Q [9] a' w'
  refine wpOps_storeOff (x := 180) (y := 179) (b := b6) (o := o6 + n * 4) (p := (0, 0, ByteArray.empty)) (A := none) (n := 0) (c := 0) (by kernel_rfl) (h'.get 180 rfl) (h'.get 179 rfl) ⟨by rw [hb.cell (p := ⟨b6, o6 + n * 4, none⟩) hb6]; exact hf.c0, by rw [hb.cell (p := ⟨b6, o6 + n * 4 + 1, none⟩) hb6]; exact hf.c1, by rw [hb.cell (p := ⟨b6, o6 + n * 4 + 2, none⟩) hb6]; exact hf.c2, by rw [hb.cell (p := ⟨b6, o6 + n * 4 + 3, none⟩) hb6]; exact hf.c3⟩ (hs.same (hb.block _ hb6)) ?_
  have e0 := h'.get 0 rfl
  have e1 := h'.get 1 rfl
  have e5 := h'.get 5 rfl
  have e7 := h'.get 7 rfl
  have e8 := h'.get 8 rfl
  have e15 := h'.get 15 rfl
  have e2 : a'.tmps.getD 2 undef = X2 := by have := h'.get 2 rfl; rw [hx] at this; exact this
  have e3 : a'.tmps.getD 3 undef = X3 := by have := h'.get 3 rfl; rw [hx] at this; exact this
  have e4 : a'.tmps.getD 4 undef = X4 := by have := h'.get 4 rfl; rw [hx] at this; exact this
  have e17 : a'.tmps.getD 17 undef = X17 := by have := h'.get 17 rfl; rw [hx] at this; exact this
  have e18 : a'.tmps.getD 18 undef = X18 := by have := h'.get 18 rfl; rw [hx] at this; exact this
  have e19 : a'.tmps.getD 19 undef = X19 := by have := h'.get 19 rfl; rw [hx] at this; exact this
  have e20 : a'.tmps.getD 20 undef = X20 := by have := h'.get 20 rfl; rw [hx] at this; exact this
  have e21 : a'.tmps.getD 21 undef = X21 := by have := h'.get 21 rfl; rw [hx] at this; exact this
  have e22 : a'.tmps.getD 22 undef = X22 := by have := h'.get 22 rfl; rw [hx] at this; exact this
  have e23 : a'.tmps.getD 23 undef = X23 := by have := h'.get 23 rfl; rw [hx] at this; exact this
  have e24 : a'.tmps.getD 24 undef = X24 := by have := h'.get 24 rfl; rw [hx] at this; exact this
  have e25 : a'.tmps.getD 25 undef = X25 := by have := h'.get 25 rfl; rw [hx] at this; exact this
  have e26 : a'.tmps.getD 26 undef = X26 := by have := h'.get 26 rfl; rw [hx] at this; exact this
  have e27 : a'.tmps.getD 27 undef = X27 := by have := h'.get 27 rfl; rw [hx] at this; exact this
  have e28 : a'.tmps.getD 28 undef = X28 := by have := h'.get 28 rfl; rw [hx] at this; exact this
  have e29 : a'.tmps.getD 29 undef = X29 := by have := h'.get 29 rfl; rw [hx] at this; exact this
  have e30 : a'.tmps.getD 30 undef = X30 := by have := h'.get 30 rfl; rw [hx] at this; exact this
  have e31 : a'.tmps.getD 31 undef = X31 := by have := h'.get 31 rfl; rw [hx] at this; exact this
  have e32 : a'.tmps.getD 32 undef = X32 := by have := h'.get 32 rfl; rw [hx] at this; exact this
  have e193 : a'.tmps.getD 193 undef = X193 := by have := h'.get 193 rfl; rw [hx] at this; exact this
  obtain ⟨u, hu⟩ : ∃ u : Nat → Value, u = fun i => a'.tmps.getD i undef := ⟨_, rfl⟩
  have hlit := arr194 a'.tmps h'.size
  rw [← hu, lit194] at hlit
  have f0 : u 0 = .string s0 := by rw [hu]; exact e0
  have f1 : u 1 = .string s1 := by rw [hu]; exact e1
  have f5 : u 5 = v5 := by rw [hu]; exact e5
  have f7 : u 7 = v7 := by rw [hu]; exact e7
  have f8 : u 8 = v8 := by rw [hu]; exact e8
  have f15 : u 15 = v15 := by rw [hu]; exact e15
  have f2 : u 2 = X2 := by rw [hu]; exact e2
  have f3 : u 3 = X3 := by rw [hu]; exact e3
  have f4 : u 4 = X4 := by rw [hu]; exact e4
  have f17 : u 17 = X17 := by rw [hu]; exact e17
  have f18 : u 18 = X18 := by rw [hu]; exact e18
  have f19 : u 19 = X19 := by rw [hu]; exact e19
  have f20 : u 20 = X20 := by rw [hu]; exact e20
  have f21 : u 21 = X21 := by rw [hu]; exact e21
  have f22 : u 22 = X22 := by rw [hu]; exact e22
  have f23 : u 23 = X23 := by rw [hu]; exact e23
  have f24 : u 24 = X24 := by rw [hu]; exact e24
  have f25 : u 25 = X25 := by rw [hu]; exact e25
  have f26 : u 26 = X26 := by rw [hu]; exact e26
  have f27 : u 27 = X27 := by rw [hu]; exact e27
  have f28 : u 28 = X28 := by rw [hu]; exact e28
  have f29 : u 29 = X29 := by rw [hu]; exact e29
  have f30 : u 30 = X30 := by rw [hu]; exact e30
  have f31 : u 31 = X31 := by rw [hu]; exact e31
  have f32 : u 32 = X32 := by rw [hu]; exact e32
  have f193 : u 193 = X193 := by rw [hu]; exact e193
  have fin := hQ u (set4 w' b6 (o6 + n * 4) (0, 0, ByteArray.empty) none 0 0) (fun B h1 h2 => below_set4 (hb.mono h2) h1) (fun b h1 h2 => (set4_block _ _ _ _ _ _ _ _ h2).trans (hb.block b h1)) (by rw [set4_size]; exact hb.size)
  obtain ⟨tm, df⟩ := a'
  have hdf : df = [] := h'.defers
  subst hdf
  have hlit : tm = _ := hlit
  show Q .normal _ _
  rw [hlit, f0, f1, f5, f7, f8, f15, f2, f3, f4, f17, f18, f19, f20, f21, f22, f23, f24, f25, f26, f27, f28, f29, f30, f31, f32, f193]
  exact fin
end Go.Proofs.Ytapcnehpechkpaa
