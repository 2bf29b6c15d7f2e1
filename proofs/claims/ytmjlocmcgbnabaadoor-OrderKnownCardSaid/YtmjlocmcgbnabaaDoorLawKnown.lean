/-
  The statement OrderKnown, as its function.
-/
import Derived.Test.YtmjlocmcgbnabaaDoorLawRanks
import Derived.Test.YtmjlocmcgbnabaaDoorPartH
namespace Go.Proofs.YtmjlocmcgbnabaaDoor
set_option linter.unusedVariables false
set_option linter.unusedSimpArgs false
open Go.RowKit
section
variable {ops : Array Oper} {Q : Exit → Act → World → Prop} {E : Nat → Kd} {D : Nat → Nat} {base : Nat → Option Kd} {N : Nat}
set_option maxHeartbeats 4000000 in
theorem step_slice22 {i : Nat} {x0 x1 x2 x3 x4 x5 x6 x7 x8 x9 x10 x11 x12 x13 x14 x15 x16 x17 x18 x19 x20 x21 : Operand} {p0 p1 p2 p3 p4 p5 p6 p7 p8 p9 p10 p11 p12 p13 p14 p15 p16 p17 p18 p19 p20 p21 : Pay} {l0 l1 l2 l3 l4 l5 l6 l7 l8 l9 l10 l11 l12 l13 l14 l15 l16 l17 l18 l19 l20 l21 : Fo} (hop : (ops[i]?).map (·.op) = some (.buildSlice 22 22 #[(0, x0), (1, x1), (2, x2), (3, x3), (4, x4), (5, x5), (6, x6), (7, x7), (8, x8), (9, x9), (10, x10), (11, x11), (12, x12), (13, x13), (14, x14), (15, x15), (16, x16), (17, x17), (18, x18), (19, x19), (20, x20), (21, x21)])) (h0 : Opd ops E D base N i x0 (.term p0 l0)) (h1 : Opd ops E D base N i x1 (.term p1 l1)) (h2 : Opd ops E D base N i x2 (.term p2 l2)) (h3 : Opd ops E D base N i x3 (.term p3 l3)) (h4 : Opd ops E D base N i x4 (.term p4 l4)) (h5 : Opd ops E D base N i x5 (.term p5 l5)) (h6 : Opd ops E D base N i x6 (.term p6 l6)) (h7 : Opd ops E D base N i x7 (.term p7 l7)) (h8 : Opd ops E D base N i x8 (.term p8 l8)) (h9 : Opd ops E D base N i x9 (.term p9 l9)) (h10 : Opd ops E D base N i x10 (.term p10 l10)) (h11 : Opd ops E D base N i x11 (.term p11 l11)) (h12 : Opd ops E D base N i x12 (.term p12 l12)) (h13 : Opd ops E D base N i x13 (.term p13 l13)) (h14 : Opd ops E D base N i x14 (.term p14 l14)) (h15 : Opd ops E D base N i x15 (.term p15 l15)) (h16 : Opd ops E D base N i x16 (.term p16 l16)) (h17 : Opd ops E D base N i x17 (.term p17 l17)) (h18 : Opd ops E D base N i x18 (.term p18 l18)) (h19 : Opd ops E D base N i x19 (.term p19 l19)) (h20 : Opd ops E D base N i x20 (.term p20 l20)) (h21 : Opd ops E D base N i x21 (.term p21 l21)) (hE : E i = .row (.node p0 l0 (.node p1 l1 (.node p2 l2 (.node p3 l3 (.node p4 l4 (.node p5 l5 (.node p6 l6 (.node p7 l7 (.node p8 l8 (.node p9 l9 (.node p10 l10 (.node p11 l11 (.node p12 l12 (.node p13 l13 (.node p14 l14 (.node p15 l15 (.node p16 l16 (.node p17 l17 (.node p18 l18 (.node p19 l19 (.node p20 l20 (.node p21 l21 .nil))))))))))))))))))))))) : Step Tryd.prog ops Q E D base N i := by
  intro o ho a w hc K hK
  have hxo := op_of ho hop
  obtain ⟨dst, op, ty, pos, after, guard⟩ := o
  have hx' : op = _ := hxo
  subst hx'
  obtain ⟨A0, c0, e0, ha0⟩ := h0 a w hc
  obtain ⟨A1, c1, e1, ha1⟩ := h1 a w hc
  obtain ⟨A2, c2, e2, ha2⟩ := h2 a w hc
  obtain ⟨A3, c3, e3, ha3⟩ := h3 a w hc
  obtain ⟨A4, c4, e4, ha4⟩ := h4 a w hc
  obtain ⟨A5, c5, e5, ha5⟩ := h5 a w hc
  obtain ⟨A6, c6, e6, ha6⟩ := h6 a w hc
  obtain ⟨A7, c7, e7, ha7⟩ := h7 a w hc
  obtain ⟨A8, c8, e8, ha8⟩ := h8 a w hc
  obtain ⟨A9, c9, e9, ha9⟩ := h9 a w hc
  obtain ⟨A10, c10, e10, ha10⟩ := h10 a w hc
  obtain ⟨A11, c11, e11, ha11⟩ := h11 a w hc
  obtain ⟨A12, c12, e12, ha12⟩ := h12 a w hc
  obtain ⟨A13, c13, e13, ha13⟩ := h13 a w hc
  obtain ⟨A14, c14, e14, ha14⟩ := h14 a w hc
  obtain ⟨A15, c15, e15, ha15⟩ := h15 a w hc
  obtain ⟨A16, c16, e16, ha16⟩ := h16 a w hc
  obtain ⟨A17, c17, e17, ha17⟩ := h17 a w hc
  obtain ⟨A18, c18, e18, ha18⟩ := h18 a w hc
  obtain ⟨A19, c19, e19, ha19⟩ := h19 a w hc
  obtain ⟨A20, c20, e20, ha20⟩ := h20 a w hc
  obtain ⟨A21, c21, e21, ha21⟩ := h21 a w hc
  have hv : Vals (fun b => b < w.heap.size) w [tv p0 A0 (Tm.len l0) c0, tv p1 A1 (Tm.len l1) c1, tv p2 A2 (Tm.len l2) c2, tv p3 A3 (Tm.len l3) c3, tv p4 A4 (Tm.len l4) c4, tv p5 A5 (Tm.len l5) c5, tv p6 A6 (Tm.len l6) c6, tv p7 A7 (Tm.len l7) c7, tv p8 A8 (Tm.len l8) c8, tv p9 A9 (Tm.len l9) c9, tv p10 A10 (Tm.len l10) c10, tv p11 A11 (Tm.len l11) c11, tv p12 A12 (Tm.len l12) c12, tv p13 A13 (Tm.len l13) c13, tv p14 A14 (Tm.len l14) c14, tv p15 A15 (Tm.len l15) c15, tv p16 A16 (Tm.len l16) c16, tv p17 A17 (Tm.len l17) c17, tv p18 A18 (Tm.len l18) c18, tv p19 A19 (Tm.len l19) c19, tv p20 A20 (Tm.len l20) c20, tv p21 A21 (Tm.len l21) c21] (.node p0 l0 (.node p1 l1 (.node p2 l2 (.node p3 l3 (.node p4 l4 (.node p5 l5 (.node p6 l6 (.node p7 l7 (.node p8 l8 (.node p9 l9 (.node p10 l10 (.node p11 l11 (.node p12 l12 (.node p13 l13 (.node p14 l14 (.node p15 l15 (.node p16 l16 (.node p17 l17 (.node p18 l18 (.node p19 l19 (.node p20 l20 (.node p21 l21 .nil)))))))))))))))))))))) := ⟨⟨A0, c0, rfl, ha0⟩, ⟨A1, c1, rfl, ha1⟩, ⟨A2, c2, rfl, ha2⟩, ⟨A3, c3, rfl, ha3⟩, ⟨A4, c4, rfl, ha4⟩, ⟨A5, c5, rfl, ha5⟩, ⟨A6, c6, rfl, ha6⟩, ⟨A7, c7, rfl, ha7⟩, ⟨A8, c8, rfl, ha8⟩, ⟨A9, c9, rfl, ha9⟩, ⟨A10, c10, rfl, ha10⟩, ⟨A11, c11, rfl, ha11⟩, ⟨A12, c12, rfl, ha12⟩, ⟨A13, c13, rfl, ha13⟩, ⟨A14, c14, rfl, ha14⟩, ⟨A15, c15, rfl, ha15⟩, ⟨A16, c16, rfl, ha16⟩, ⟨A17, c17, rfl, ha17⟩, ⟨A18, c18, rfl, ha18⟩, ⟨A19, c19, rfl, ha19⟩, ⟨A20, c20, rfl, ha20⟩, ⟨A21, c21, rfl, ha21⟩, trivial⟩
  have hr := row_new w _ _ 22 24 hv rfl (by decide)
  have hrun : (execOp a.eval ⟨dst, .buildSlice 22 22 #[(0, x0), (1, x1), (2, x2), (3, x3), (4, x4), (5, x5), (6, x6), (7, x7), (8, x8), (9, x9), (10, x10), (11, x11), (12, x12), (13, x13), (14, x14), (15, x15), (16, x16), (17, x17), (18, x18), (19, x19), (20, x20), (21, x21)], ty, pos, after, guard⟩).run Tryd.prog w = .ok (.value (.slice (some ⟨w.heap.size, 0, none⟩) 22 22)) (w.alloc (.cells (tcells [tv p0 A0 (Tm.len l0) c0, tv p1 A1 (Tm.len l1) c1, tv p2 A2 (Tm.len l2) c2, tv p3 A3 (Tm.len l3) c3, tv p4 A4 (Tm.len l4) c4, tv p5 A5 (Tm.len l5) c5, tv p6 A6 (Tm.len l6) c6, tv p7 A7 (Tm.len l7) c7, tv p8 A8 (Tm.len l8) c8, tv p9 A9 (Tm.len l9) c9, tv p10 A10 (Tm.len l10) c10, tv p11 A11 (Tm.len l11) c11, tv p12 A12 (Tm.len l12) c12, tv p13 A13 (Tm.len l13) c13, tv p14 A14 (Tm.len l14) c14, tv p15 A15 (Tm.len l15) c15, tv p16 A16 (Tm.len l16) c16, tv p17 A17 (Tm.len l17) c17, tv p18 A18 (Tm.len l18) c18, tv p19 A19 (Tm.len l19) c19, tv p20 A20 (Tm.len l20) c20, tv p21 A21 (Tm.len l21) c21]).toArray 24)) := by
    unfold execOp
    simp only [List.map_toArray, List.map_cons, List.map_nil, e0, e1, e2, e3, e4, e5, e6, e7, e8, e9, e10, e11, e12, e13, e14, e15, e16, e17, e18, e19, e20, e21]
    go_simp
    rfl
  unfold Oper.wp
  rw [hrun]
  exact hK _ _ (hE ▸ hr) ((Below.refl _ _).alloc (Nat.le_refl _) _)
end
def knF0 : Fo := (.node ((0, 0, ByteArray.empty) : Pay) .nil .nil)
def knF1 : Fo := (.node ((2, 0, ⟨#[122]⟩) : Pay) .nil .nil)
def knF2 : Fo := (.node ((0, 0, ByteArray.empty) : Pay) .nil (.node ((0, 0, ByteArray.empty) : Pay) .nil .nil))
def knF3 : Fo := (.node ((0, 0, ByteArray.empty) : Pay) .nil (.node ((0, 1, ByteArray.empty) : Pay) .nil .nil))
def knF4 : Fo := (.node ((0, 1, ByteArray.empty) : Pay) .nil (.node ((0, 0, ByteArray.empty) : Pay) .nil .nil))
def knF5 : Fo := (.node ((0, 0, ByteArray.empty) : Pay) .nil (.node ((0, 1, ByteArray.empty) : Pay) .nil (.node ((0, 1099511627776, ByteArray.empty) : Pay) .nil (.node ((1, (-9223372036854775808), ByteArray.empty) : Pay) .nil (.node ((1, (-1), ByteArray.empty) : Pay) .nil (.node ((1, 0, ByteArray.empty) : Pay) .nil (.node ((1, 1, ByteArray.empty) : Pay) .nil (.node ((1, 9223372036854775807, ByteArray.empty) : Pay) .nil (.node ((2, 0, ⟨#[]⟩) : Pay) .nil (.node ((2, 0, ⟨#[65]⟩) : Pay) .nil (.node ((2, 0, ⟨#[97]⟩) : Pay) .nil (.node ((2, 0, ⟨#[97, 0]⟩) : Pay) .nil (.node ((2, 0, ⟨#[97, 98]⟩) : Pay) .nil (.node ((2, 0, ⟨#[98]⟩) : Pay) .nil (.node ((2, 0, ⟨#[128]⟩) : Pay) .nil (.node ((3, 0, ⟨#[]⟩) : Pay) knF0 (.node ((3, 0, ⟨#[97]⟩) : Pay) knF0 (.node ((3, 0, ⟨#[97]⟩) : Pay) knF1 (.node ((3, 0, ⟨#[98]⟩) : Pay) knF0 (.node ((3, 0, ⟨#[]⟩) : Pay) knF2 (.node ((3, 0, ⟨#[97]⟩) : Pay) knF3 (.node ((3, 0, ⟨#[97]⟩) : Pay) knF4 .nil))))))))))))))))))))))
def knF6 : Fo := (.node ((2, 0, ⟨#[98]⟩) : Pay) .nil (.node ((1, 1, ByteArray.empty) : Pay) .nil .nil))
def knF7 : Fo := (.node ((3, 0, ⟨#[45]⟩) : Pay) knF6 (.node ((2, 0, ⟨#[97]⟩) : Pay) .nil .nil))
def knF8 : Fo := (keysR knF7).1
def knF9 : Fo := (.node ((2, 0, ⟨#[97]⟩) : Pay) .nil (.node ((0, (-1), ByteArray.empty) : Pay) .nil .nil))
def knF10 : Fo := (keysR knF9).1
def knF11 : Fo := (.node ((0, (-1), ByteArray.empty) : Pay) .nil .nil)
def knF12 : Fo := (sortR knF11).1
def knF13 : Fo := (.node ((3, 0, ⟨#[102]⟩) : Pay) .nil .nil)
def knF14 : Fo := (stableR knF13).1
def knF15 : Fo := (sortR .nil).1
def knF16 : Fo := (.node ((2, 0, ⟨#[99]⟩) : Pay) .nil (.node ((2, 0, ⟨#[97]⟩) : Pay) .nil .nil))
def knF17 : Fo := (.node ((2, 0, ⟨#[97]⟩) : Pay) .nil (.node ((2, 0, ⟨#[98]⟩) : Pay) .nil (.node ((2, 0, ⟨#[99]⟩) : Pay) .nil .nil)))
theorem kn_len : Tm.len knF5 = 22 := by kernel_rfl
def wantI (i k : Nat) : Int := if i < k then -1 else if k < i then 1 else 0
theorem kn_cmp : ∀ i, i < 22 → ∀ k, k < 22 → Tm.cmpV (Tm.toL knF5)[i]!.1 (Tm.toL knF5)[i]!.2 (Tm.toL knF5)[k]!.1 (Tm.toL knF5)[k]!.2 = wantI i k := of_decide_eq_true (by kernel_rfl)
noncomputable def kn0Ops : Array Oper := ((Tryd.f11.body).bind (findReg 0)).getD #[]
noncomputable def kn1Ops : Array Oper := ((Tryd.f11.body).bind (findReg 1)).getD #[]
noncomputable def kn2Ops : Array Oper := ((Tryd.f11.body).bind (findReg 2)).getD #[]
noncomputable def kn3Ops : Array Oper := ((Tryd.f11.body).bind (findReg 3)).getD #[]
noncomputable def kn4Ops : Array Oper := ((Tryd.f11.body).bind (findReg 4)).getD #[]
noncomputable def kn5Ops : Array Oper := ((Tryd.f11.body).bind (findReg 5)).getD #[]
noncomputable def kn6Ops : Array Oper := ((Tryd.f11.body).bind (findReg 6)).getD #[]
noncomputable def kn7Ops : Array Oper := ((Tryd.f11.body).bind (findReg 7)).getD #[]
noncomputable def kn8Ops : Array Oper := ((Tryd.f11.body).bind (findReg 8)).getD #[]
noncomputable def kn9Ops : Array Oper := ((Tryd.f11.body).bind (findReg 9)).getD #[]
noncomputable def kn10Ops : Array Oper := ((Tryd.f11.body).bind (findReg 10)).getD #[]
noncomputable def kn11Ops : Array Oper := ((Tryd.f11.body).bind (findReg 11)).getD #[]
noncomputable def kn12Ops : Array Oper := ((Tryd.f11.body).bind (findReg 12)).getD #[]
noncomputable def kn13Ops : Array Oper := ((Tryd.f11.body).bind (findReg 13)).getD #[]
noncomputable def kn14Ops : Array Oper := ((Tryd.f11.body).bind (findReg 14)).getD #[]
noncomputable def kn15Ops : Array Oper := ((Tryd.f11.body).bind (findReg 15)).getD #[]
noncomputable def kn16Ops : Array Oper := ((Tryd.f11.body).bind (findReg 16)).getD #[]
noncomputable def kn17Ops : Array Oper := ((Tryd.f11.body).bind (findReg 17)).getD #[]
noncomputable def kn18Ops : Array Oper := ((Tryd.f11.body).bind (findReg 18)).getD #[]
noncomputable def kn19Ops : Array Oper := ((Tryd.f11.body).bind (findReg 19)).getD #[]
noncomputable def kn20Ops : Array Oper := ((Tryd.f11.body).bind (findReg 20)).getD #[]
noncomputable def kn21Ops : Array Oper := ((Tryd.f11.body).bind (findReg 21)).getD #[]
noncomputable def kn22Ops : Array Oper := ((Tryd.f11.body).bind (findReg 22)).getD #[]
noncomputable def kn23Ops : Array Oper := ((Tryd.f11.body).bind (findReg 23)).getD #[]
noncomputable def kn24Ops : Array Oper := ((Tryd.f11.body).bind (findReg 24)).getD #[]
theorem kn_body : Tryd.f11.body = some (.seq (.region 0 kn0Ops false) (.seq (.region 1 kn1Ops false) (.seq (.region 2 kn2Ops true) (.seq (.seq (.region 3 kn3Ops false) (.block 0 (.loop (.seq (.seq (.region 4 kn4Ops false) (.cond (.tmp 68) .skip (.exit 0))) (.seq (.block 1 (.seq (.region 6 kn6Ops false) (.block 2 (.loop (.seq (.seq (.region 7 kn7Ops false) (.cond (.tmp 74) .skip (.exit 2))) (.seq (.block 3 (.seq (.region 9 kn9Ops false) (.seq (.seq (.region 10 kn10Ops false) (.cond (.tmp 79) (.region 11 kn11Ops false) .skip)) (.seq (.seq (.region 12 kn12Ops false) (.cond (.tmp 82) (.region 13 kn13Ops false) .skip)) (.seq (.region 14 kn14Ops true) (.cond (.tmp 93) (.seq (.region 15 kn15Ops false) .ret) .skip)))))) (.region 8 kn8Ops false))))))) (.region 5 kn5Ops false)))))) (.seq (.region 16 kn16Ops false) (.seq (.region 17 kn17Ops false) (.seq (.region 18 kn18Ops false) (.seq (.region 19 kn19Ops false) (.seq (.region 20 kn20Ops false) (.seq (.region 21 kn21Ops false) (.seq (.region 22 kn22Ops false) (.seq (.region 23 kn23Ops false) (.seq (.region 24 kn24Ops false) .ret))))))))))))) := by kernel_rfl
theorem kn0_region {Q : Exit → Act → World → Prop}   {w0 : World} {a : Act} {w : World} (h : Hold 210 [(999, .tabs)] w0 a w)
    (hQ : ∀ a' w', Hold 210 [(999, .tabs)] w0 a' w' → Q .normal a' w') : (Code.region 0 kn0Ops false).wp Tryd.prog Q a w := by
  refine region_seq (w0 := w) 1 (by kernel_rfl) ?_
  rw [show List.range 1 = [0] from rfl]
  refine env_one (i := 0) (d := 0) (k := .val (.bool false)) (step_assign (by kernel_rfl) (Opd.const _) rfl) (by kernel_rfl) (by decide) h ?_
  clear h
  intro a w h
  exact hQ a w (h.keep [999])
theorem kn1_region {Q : Exit → Act → World → Prop}   {w0 : World} {a : Act} {w : World} (h : Hold 210 [(999, .tabs)] w0 a w)
    (hQ : ∀ a' w', Hold 210 [(1, .ptrT ((1, (-9223372036854775808), ByteArray.empty) : Pay) .nil), (2, .ptrT ((1, 9223372036854775807, ByteArray.empty) : Pay) .nil), (999, .tabs)] w0 a' w' → Q .normal a' w') : (Code.region 1 kn1Ops false).wp Tryd.prog Q a w := by
  refine region_seq (w0 := w) 6 (by kernel_rfl) ?_
  rw [show List.range 6 = [0, 1, 2, 3, 4, 5] from rfl]
  refine env_one (i := 0) (d := 23) (k := .term ((1, (-9223372036854775808), ByteArray.empty) : Pay) .nil) (step_n (by kernel_rfl) (Opd.const _) rfl) (by kernel_rfl) (by decide) h ?_
  clear h
  intro a w h
  refine env_one (i := 1) (d := 24) (k := .term ((1, 9223372036854775807, ByteArray.empty) : Pay) .nil) (step_n (by kernel_rfl) (Opd.const _) rfl) (by kernel_rfl) (by decide) h ?_
  clear h
  intro a w h
  refine env_box4 (i := 2) (d := 1) (e := 2) (by kernel_rfl) (by decide) (by kernel_rfl) (by decide) (by decide) (by kernel_rfl) (by decide) (by decide) (s := 23) rfl (by kernel_rfl) (by decide) (by decide) (r := 24) rfl h ?_
  clear h
  intro a w h
  exact hQ a w (h.keep [1, 2, 999])
def kn2Es  : List Kd := [
  .term ((0, 0, ByteArray.empty) : Pay) .nil,
  .term ((0, 1, ByteArray.empty) : Pay) .nil,
  .term ((0, 1099511627776, ByteArray.empty) : Pay) .nil,
  .term ((1, (-9223372036854775808), ByteArray.empty) : Pay) .nil,
  .term ((1, (-1), ByteArray.empty) : Pay) .nil,
  .term ((1, 0, ByteArray.empty) : Pay) .nil,
  .term ((1, 1, ByteArray.empty) : Pay) .nil,
  .term ((1, 9223372036854775807, ByteArray.empty) : Pay) .nil,
  .term ((2, 0, ⟨#[]⟩) : Pay) .nil,
  .term ((2, 0, ⟨#[65]⟩) : Pay) .nil,
  .term ((2, 0, ⟨#[97]⟩) : Pay) .nil,
  .term ((2, 0, ⟨#[97, 0]⟩) : Pay) .nil,
  .term ((2, 0, ⟨#[97, 98]⟩) : Pay) .nil,
  .term ((2, 0, ⟨#[98]⟩) : Pay) .nil,
  .term ((2, 0, ⟨#[128]⟩) : Pay) .nil,
  .term ((0, 0, ByteArray.empty) : Pay) .nil,
  .row knF0,
  .term ((3, 0, ⟨#[]⟩) : Pay) knF0,
  .term ((0, 0, ByteArray.empty) : Pay) .nil,
  .row knF0,
  .term ((3, 0, ⟨#[97]⟩) : Pay) knF0,
  .term ((2, 0, ⟨#[122]⟩) : Pay) .nil,
  .row knF1,
  .term ((3, 0, ⟨#[97]⟩) : Pay) knF1,
  .term ((0, 0, ByteArray.empty) : Pay) .nil,
  .row knF0,
  .term ((3, 0, ⟨#[98]⟩) : Pay) knF0,
  .term ((0, 0, ByteArray.empty) : Pay) .nil,
  .term ((0, 0, ByteArray.empty) : Pay) .nil,
  .row knF2,
  .term ((3, 0, ⟨#[]⟩) : Pay) knF2,
  .term ((0, 0, ByteArray.empty) : Pay) .nil,
  .term ((0, 1, ByteArray.empty) : Pay) .nil,
  .row knF3,
  .term ((3, 0, ⟨#[97]⟩) : Pay) knF3,
  .term ((0, 1, ByteArray.empty) : Pay) .nil,
  .term ((0, 0, ByteArray.empty) : Pay) .nil,
  .row knF4,
  .term ((3, 0, ⟨#[97]⟩) : Pay) knF4,
  .row knF5,
  .row knF5]
def kn2Ds : List Nat := [25, 26, 27, 28, 29, 30, 31, 32, 33, 34, 35, 36, 37, 38, 39, 40, 41, 42, 43, 44, 45, 46, 47, 48, 49, 50, 51, 52, 53, 54, 55, 56, 57, 58, 59, 60, 61, 62, 63, 64, 3]
def kn2Env  : Env := [(1, .ptrT ((1, (-9223372036854775808), ByteArray.empty) : Pay) .nil), (2, .ptrT ((1, 9223372036854775807, ByteArray.empty) : Pay) .nil), (999, .tabs)]
theorem kn2_0 {Q : Exit → Act → World → Prop}   : RStep kn2Ops Q (fun i => ((kn2Es )[i]?).getD .any) (fun i => (kn2Ds[i]?).getD (1000 + i)) (look (kn2Env )) 210 0 := fun _ => step_x (by kernel_rfl) (Opd.const _) rfl
theorem kn2_1 {Q : Exit → Act → World → Prop}   : RStep kn2Ops Q (fun i => ((kn2Es )[i]?).getD .any) (fun i => (kn2Ds[i]?).getD (1000 + i)) (look (kn2Env )) 210 1 := fun _ => step_x (by kernel_rfl) (Opd.const _) rfl
theorem kn2_2 {Q : Exit → Act → World → Prop}   : RStep kn2Ops Q (fun i => ((kn2Es )[i]?).getD .any) (fun i => (kn2Ds[i]?).getD (1000 + i)) (look (kn2Env )) 210 2 := fun _ => step_x (by kernel_rfl) (Opd.const _) rfl
theorem kn2_3 {Q : Exit → Act → World → Prop}   : RStep kn2Ops Q (fun i => ((kn2Es )[i]?).getD .any) (fun i => (kn2Ds[i]?).getD (1000 + i)) (look (kn2Env )) 210 3 := fun _ => step_load_term (by kernel_rfl) (Opd.of_base 1 rfl) rfl
theorem kn2_4 {Q : Exit → Act → World → Prop}   : RStep kn2Ops Q (fun i => ((kn2Es )[i]?).getD .any) (fun i => (kn2Ds[i]?).getD (1000 + i)) (look (kn2Env )) 210 4 := fun _ => step_n (by kernel_rfl) (Opd.const _) rfl
theorem kn2_5 {Q : Exit → Act → World → Prop}   : RStep kn2Ops Q (fun i => ((kn2Es )[i]?).getD .any) (fun i => (kn2Ds[i]?).getD (1000 + i)) (look (kn2Env )) 210 5 := fun _ => step_n (by kernel_rfl) (Opd.const _) rfl
theorem kn2_6 {Q : Exit → Act → World → Prop}   : RStep kn2Ops Q (fun i => ((kn2Es )[i]?).getD .any) (fun i => (kn2Ds[i]?).getD (1000 + i)) (look (kn2Env )) 210 6 := fun _ => step_n (by kernel_rfl) (Opd.const _) rfl
theorem kn2_7 {Q : Exit → Act → World → Prop}   : RStep kn2Ops Q (fun i => ((kn2Es )[i]?).getD .any) (fun i => (kn2Ds[i]?).getD (1000 + i)) (look (kn2Env )) 210 7 := fun _ => step_load_term (by kernel_rfl) (Opd.of_base 2 rfl) rfl
theorem kn2_8 {Q : Exit → Act → World → Prop}   : RStep kn2Ops Q (fun i => ((kn2Es )[i]?).getD .any) (fun i => (kn2Ds[i]?).getD (1000 + i)) (look (kn2Env )) 210 8 := fun _ => step_a (by kernel_rfl) (Opd.const _) rfl
theorem kn2_9 {Q : Exit → Act → World → Prop}   : RStep kn2Ops Q (fun i => ((kn2Es )[i]?).getD .any) (fun i => (kn2Ds[i]?).getD (1000 + i)) (look (kn2Env )) 210 9 := fun _ => step_a (by kernel_rfl) (Opd.const _) rfl
theorem kn2_10 {Q : Exit → Act → World → Prop}   : RStep kn2Ops Q (fun i => ((kn2Es )[i]?).getD .any) (fun i => (kn2Ds[i]?).getD (1000 + i)) (look (kn2Env )) 210 10 := fun _ => step_a (by kernel_rfl) (Opd.const _) rfl
theorem kn2_11 {Q : Exit → Act → World → Prop}   : RStep kn2Ops Q (fun i => ((kn2Es )[i]?).getD .any) (fun i => (kn2Ds[i]?).getD (1000 + i)) (look (kn2Env )) 210 11 := fun _ => step_a (by kernel_rfl) (Opd.const _) rfl
theorem kn2_12 {Q : Exit → Act → World → Prop}   : RStep kn2Ops Q (fun i => ((kn2Es )[i]?).getD .any) (fun i => (kn2Ds[i]?).getD (1000 + i)) (look (kn2Env )) 210 12 := fun _ => step_a (by kernel_rfl) (Opd.const _) rfl
theorem kn2_13 {Q : Exit → Act → World → Prop}   : RStep kn2Ops Q (fun i => ((kn2Es )[i]?).getD .any) (fun i => (kn2Ds[i]?).getD (1000 + i)) (look (kn2Env )) 210 13 := fun _ => step_a (by kernel_rfl) (Opd.const _) rfl
theorem kn2_14 {Q : Exit → Act → World → Prop}   : RStep kn2Ops Q (fun i => ((kn2Es )[i]?).getD .any) (fun i => (kn2Ds[i]?).getD (1000 + i)) (look (kn2Env )) 210 14 := fun _ => step_a (by kernel_rfl) (Opd.const _) rfl
theorem kn2_15 {Q : Exit → Act → World → Prop}   : RStep kn2Ops Q (fun i => ((kn2Es )[i]?).getD .any) (fun i => (kn2Ds[i]?).getD (1000 + i)) (look (kn2Env )) 210 15 := fun _ => step_x (by kernel_rfl) (Opd.const _) rfl
theorem kn2_16 {Q : Exit → Act → World → Prop}   : RStep kn2Ops Q (fun i => ((kn2Es )[i]?).getD .any) (fun i => (kn2Ds[i]?).getD (1000 + i)) (look (kn2Env )) 210 16 := fun _ => step_slice1 (by kernel_rfl) (Opd.dep 15 rfl rfl (by kernel_rfl)) rfl
theorem kn2_17 {Q : Exit → Act → World → Prop}   : RStep kn2Ops Q (fun i => ((kn2Es )[i]?).getD .any) (fun i => (kn2Ds[i]?).getD (1000 + i)) (look (kn2Env )) 210 17 := fun _ => step_f (by kernel_rfl) (Opd.const _) (Opd.dep 16 rfl rfl (by kernel_rfl)) rfl
theorem kn2_18 {Q : Exit → Act → World → Prop}   : RStep kn2Ops Q (fun i => ((kn2Es )[i]?).getD .any) (fun i => (kn2Ds[i]?).getD (1000 + i)) (look (kn2Env )) 210 18 := fun _ => step_x (by kernel_rfl) (Opd.const _) rfl
theorem kn2_19 {Q : Exit → Act → World → Prop}   : RStep kn2Ops Q (fun i => ((kn2Es )[i]?).getD .any) (fun i => (kn2Ds[i]?).getD (1000 + i)) (look (kn2Env )) 210 19 := fun _ => step_slice1 (by kernel_rfl) (Opd.dep 18 rfl rfl (by kernel_rfl)) rfl
theorem kn2_20 {Q : Exit → Act → World → Prop}   : RStep kn2Ops Q (fun i => ((kn2Es )[i]?).getD .any) (fun i => (kn2Ds[i]?).getD (1000 + i)) (look (kn2Env )) 210 20 := fun _ => step_f (by kernel_rfl) (Opd.const _) (Opd.dep 19 rfl rfl (by kernel_rfl)) rfl
theorem kn2_21 {Q : Exit → Act → World → Prop}   : RStep kn2Ops Q (fun i => ((kn2Es )[i]?).getD .any) (fun i => (kn2Ds[i]?).getD (1000 + i)) (look (kn2Env )) 210 21 := fun _ => step_a (by kernel_rfl) (Opd.const _) rfl
theorem kn2_22 {Q : Exit → Act → World → Prop}   : RStep kn2Ops Q (fun i => ((kn2Es )[i]?).getD .any) (fun i => (kn2Ds[i]?).getD (1000 + i)) (look (kn2Env )) 210 22 := fun _ => step_slice1 (by kernel_rfl) (Opd.dep 21 rfl rfl (by kernel_rfl)) rfl
theorem kn2_23 {Q : Exit → Act → World → Prop}   : RStep kn2Ops Q (fun i => ((kn2Es )[i]?).getD .any) (fun i => (kn2Ds[i]?).getD (1000 + i)) (look (kn2Env )) 210 23 := fun _ => step_f (by kernel_rfl) (Opd.const _) (Opd.dep 22 rfl rfl (by kernel_rfl)) rfl
theorem kn2_24 {Q : Exit → Act → World → Prop}   : RStep kn2Ops Q (fun i => ((kn2Es )[i]?).getD .any) (fun i => (kn2Ds[i]?).getD (1000 + i)) (look (kn2Env )) 210 24 := fun _ => step_x (by kernel_rfl) (Opd.const _) rfl
theorem kn2_25 {Q : Exit → Act → World → Prop}   : RStep kn2Ops Q (fun i => ((kn2Es )[i]?).getD .any) (fun i => (kn2Ds[i]?).getD (1000 + i)) (look (kn2Env )) 210 25 := fun _ => step_slice1 (by kernel_rfl) (Opd.dep 24 rfl rfl (by kernel_rfl)) rfl
theorem kn2_26 {Q : Exit → Act → World → Prop}   : RStep kn2Ops Q (fun i => ((kn2Es )[i]?).getD .any) (fun i => (kn2Ds[i]?).getD (1000 + i)) (look (kn2Env )) 210 26 := fun _ => step_f (by kernel_rfl) (Opd.const _) (Opd.dep 25 rfl rfl (by kernel_rfl)) rfl
theorem kn2_27 {Q : Exit → Act → World → Prop}   : RStep kn2Ops Q (fun i => ((kn2Es )[i]?).getD .any) (fun i => (kn2Ds[i]?).getD (1000 + i)) (look (kn2Env )) 210 27 := fun _ => step_x (by kernel_rfl) (Opd.const _) rfl
theorem kn2_28 {Q : Exit → Act → World → Prop}   : RStep kn2Ops Q (fun i => ((kn2Es )[i]?).getD .any) (fun i => (kn2Ds[i]?).getD (1000 + i)) (look (kn2Env )) 210 28 := fun _ => step_x (by kernel_rfl) (Opd.const _) rfl
theorem kn2_29 {Q : Exit → Act → World → Prop}   : RStep kn2Ops Q (fun i => ((kn2Es )[i]?).getD .any) (fun i => (kn2Ds[i]?).getD (1000 + i)) (look (kn2Env )) 210 29 := fun _ => step_slice2 (by kernel_rfl) (Opd.dep 27 rfl rfl (by kernel_rfl)) (Opd.dep 28 rfl rfl (by kernel_rfl)) rfl
theorem kn2_30 {Q : Exit → Act → World → Prop}   : RStep kn2Ops Q (fun i => ((kn2Es )[i]?).getD .any) (fun i => (kn2Ds[i]?).getD (1000 + i)) (look (kn2Env )) 210 30 := fun _ => step_f (by kernel_rfl) (Opd.const _) (Opd.dep 29 rfl rfl (by kernel_rfl)) rfl
theorem kn2_31 {Q : Exit → Act → World → Prop}   : RStep kn2Ops Q (fun i => ((kn2Es )[i]?).getD .any) (fun i => (kn2Ds[i]?).getD (1000 + i)) (look (kn2Env )) 210 31 := fun _ => step_x (by kernel_rfl) (Opd.const _) rfl
theorem kn2_32 {Q : Exit → Act → World → Prop}   : RStep kn2Ops Q (fun i => ((kn2Es )[i]?).getD .any) (fun i => (kn2Ds[i]?).getD (1000 + i)) (look (kn2Env )) 210 32 := fun _ => step_x (by kernel_rfl) (Opd.const _) rfl
theorem kn2_33 {Q : Exit → Act → World → Prop}   : RStep kn2Ops Q (fun i => ((kn2Es )[i]?).getD .any) (fun i => (kn2Ds[i]?).getD (1000 + i)) (look (kn2Env )) 210 33 := fun _ => step_slice2 (by kernel_rfl) (Opd.dep 31 rfl rfl (by kernel_rfl)) (Opd.dep 32 rfl rfl (by kernel_rfl)) rfl
theorem kn2_34 {Q : Exit → Act → World → Prop}   : RStep kn2Ops Q (fun i => ((kn2Es )[i]?).getD .any) (fun i => (kn2Ds[i]?).getD (1000 + i)) (look (kn2Env )) 210 34 := fun _ => step_f (by kernel_rfl) (Opd.const _) (Opd.dep 33 rfl rfl (by kernel_rfl)) rfl
theorem kn2_35 {Q : Exit → Act → World → Prop}   : RStep kn2Ops Q (fun i => ((kn2Es )[i]?).getD .any) (fun i => (kn2Ds[i]?).getD (1000 + i)) (look (kn2Env )) 210 35 := fun _ => step_x (by kernel_rfl) (Opd.const _) rfl
theorem kn2_36 {Q : Exit → Act → World → Prop}   : RStep kn2Ops Q (fun i => ((kn2Es )[i]?).getD .any) (fun i => (kn2Ds[i]?).getD (1000 + i)) (look (kn2Env )) 210 36 := fun _ => step_x (by kernel_rfl) (Opd.const _) rfl
theorem kn2_37 {Q : Exit → Act → World → Prop}   : RStep kn2Ops Q (fun i => ((kn2Es )[i]?).getD .any) (fun i => (kn2Ds[i]?).getD (1000 + i)) (look (kn2Env )) 210 37 := fun _ => step_slice2 (by kernel_rfl) (Opd.dep 35 rfl rfl (by kernel_rfl)) (Opd.dep 36 rfl rfl (by kernel_rfl)) rfl
theorem kn2_38 {Q : Exit → Act → World → Prop}   : RStep kn2Ops Q (fun i => ((kn2Es )[i]?).getD .any) (fun i => (kn2Ds[i]?).getD (1000 + i)) (look (kn2Env )) 210 38 := fun _ => step_f (by kernel_rfl) (Opd.const _) (Opd.dep 37 rfl rfl (by kernel_rfl)) rfl
theorem kn2_39 {Q : Exit → Act → World → Prop}   : RStep kn2Ops Q (fun i => ((kn2Es )[i]?).getD .any) (fun i => (kn2Ds[i]?).getD (1000 + i)) (look (kn2Env )) 210 39 := fun _ => step_slice22 (by kernel_rfl) (Opd.dep 0 rfl rfl (by kernel_rfl)) (Opd.dep 1 rfl rfl (by kernel_rfl)) (Opd.dep 2 rfl rfl (by kernel_rfl)) (Opd.dep 3 rfl rfl (by kernel_rfl)) (Opd.dep 4 rfl rfl (by kernel_rfl)) (Opd.dep 5 rfl rfl (by kernel_rfl)) (Opd.dep 6 rfl rfl (by kernel_rfl)) (Opd.dep 7 rfl rfl (by kernel_rfl)) (Opd.dep 8 rfl rfl (by kernel_rfl)) (Opd.dep 9 rfl rfl (by kernel_rfl)) (Opd.dep 10 rfl rfl (by kernel_rfl)) (Opd.dep 11 rfl rfl (by kernel_rfl)) (Opd.dep 12 rfl rfl (by kernel_rfl)) (Opd.dep 13 rfl rfl (by kernel_rfl)) (Opd.dep 14 rfl rfl (by kernel_rfl)) (Opd.dep 17 rfl rfl (by kernel_rfl)) (Opd.dep 20 rfl rfl (by kernel_rfl)) (Opd.dep 23 rfl rfl (by kernel_rfl)) (Opd.dep 26 rfl rfl (by kernel_rfl)) (Opd.dep 30 rfl rfl (by kernel_rfl)) (Opd.dep 34 rfl rfl (by kernel_rfl)) (Opd.dep 38 rfl rfl (by kernel_rfl)) rfl
theorem kn2_40 {Q : Exit → Act → World → Prop}   : RStep kn2Ops Q (fun i => ((kn2Es )[i]?).getD .any) (fun i => (kn2Ds[i]?).getD (1000 + i)) (look (kn2Env )) 210 40 := fun _ => step_assign (by kernel_rfl) (Opd.dep 39 rfl rfl (by kernel_rfl)) rfl
theorem kn2_region {Q : Exit → Act → World → Prop}   {w0 : World} {a : Act} {w : World} (h : Hold 210 [(1, .ptrT ((1, (-9223372036854775808), ByteArray.empty) : Pay) .nil), (2, .ptrT ((1, 9223372036854775807, ByteArray.empty) : Pay) .nil), (999, .tabs)] w0 a w)
    (hQ : ∀ a' w', Hold 210 [(3, .row knF5), (999, .tabs)] w0 a' w' → Q .normal a' w') : (Code.region 2 kn2Ops true).wp Tryd.prog Q a w := by
  have hall : ∀ i, i < 0 → RStep kn2Ops Q (fun i => ((kn2Es )[i]?).getD .any) (fun i => (kn2Ds[i]?).getD (1000 + i)) (look (kn2Env )) 210 i := fun i hi => absurd hi (by omega)
  have hall := below_succ hall (kn2_0  )
  have hall := below_succ hall (kn2_1  )
  have hall := below_succ hall (kn2_2  )
  have hall := below_succ hall (kn2_3  )
  have hall := below_succ hall (kn2_4  )
  have hall := below_succ hall (kn2_5  )
  have hall := below_succ hall (kn2_6  )
  have hall := below_succ hall (kn2_7  )
  have hall := below_succ hall (kn2_8  )
  have hall := below_succ hall (kn2_9  )
  have hall := below_succ hall (kn2_10  )
  have hall := below_succ hall (kn2_11  )
  have hall := below_succ hall (kn2_12  )
  have hall := below_succ hall (kn2_13  )
  have hall := below_succ hall (kn2_14  )
  have hall := below_succ hall (kn2_15  )
  have hall := below_succ hall (kn2_16  )
  have hall := below_succ hall (kn2_17  )
  have hall := below_succ hall (kn2_18  )
  have hall := below_succ hall (kn2_19  )
  have hall := below_succ hall (kn2_20  )
  have hall := below_succ hall (kn2_21  )
  have hall := below_succ hall (kn2_22  )
  have hall := below_succ hall (kn2_23  )
  have hall := below_succ hall (kn2_24  )
  have hall := below_succ hall (kn2_25  )
  have hall := below_succ hall (kn2_26  )
  have hall := below_succ hall (kn2_27  )
  have hall := below_succ hall (kn2_28  )
  have hall := below_succ hall (kn2_29  )
  have hall := below_succ hall (kn2_30  )
  have hall := below_succ hall (kn2_31  )
  have hall := below_succ hall (kn2_32  )
  have hall := below_succ hall (kn2_33  )
  have hall := below_succ hall (kn2_34  )
  have hall := below_succ hall (kn2_35  )
  have hall := below_succ hall (kn2_36  )
  have hall := below_succ hall (kn2_37  )
  have hall := below_succ hall (kn2_38  )
  have hall := below_succ hall (kn2_39  )
  have hall := below_succ hall (kn2_40  )
  refine env_any (env := kn2Env ) (N := 210) (w0 := w0) kn2Ds (kn2Es ) (by kernel_rfl) (by kernel_rfl) (of_decide_eq_true (by kernel_rfl)) (fun i_ hi_ => hall i_ (by rw [show (kn2Es ).length = 41 by kernel_rfl] at hi_; exact hi_)) h fun a' w' h => ?_
  exact hQ a' w' (h.keep [3, 999])
theorem kn3_region {Q : Exit → Act → World → Prop}   {w0 : World} {a : Act} {w : World} (h : Hold 210 [(3, .row knF5), (999, .tabs)] w0 a w)
    (hQ : ∀ a' w', Hold 210 [(3, .row knF5), (4, .val (.int .i64 0)), (999, .tabs)] w0 a' w' → Q .normal a' w') : (Code.region 3 kn3Ops false).wp Tryd.prog Q a w := by
  refine region_seq (w0 := w) 1 (by kernel_rfl) ?_
  rw [show List.range 1 = [0] from rfl]
  refine env_one (i := 0) (d := 4) (k := .val (.int .i64 0)) (step_assign (by kernel_rfl) (Opd.const _) rfl) (by kernel_rfl) (by decide) h ?_
  clear h
  intro a w h
  exact hQ a w (h.keep [3, 4, 999])
theorem kn4y_region {Q : Exit → Act → World → Prop} (ii : Nat) (hi : ii < 22) {w0 : World} {a : Act} {w : World} (h : Hold 210 [(3, .row knF5), (4, .val (.int .i64 ((ii : Nat) : Int))), (999, .tabs)] w0 a w)
    (hQ : ∀ a' w', Hold 210 [(3, .row knF5), (4, .val (.int .i64 ((ii : Nat) : Int))), (999, .tabs), (68, .val (.bool true))] w0 a' w' → Q .normal a' w') : (Code.region 4 kn4Ops false).wp Tryd.prog Q a w := by
  refine region_seq (w0 := w) 4 (by kernel_rfl) ?_
  rw [show List.range 4 = [0, 1, 2, 3] from rfl]
  refine env_one (i := 0) (d := 65) (k := .val (.int .i64 ((ii : Nat) : Int))) (step_move (by kernel_rfl) (Opd.of_base 4 rfl) rfl) (by kernel_rfl) (by decide) h ?_
  clear h
  intro a w h
  refine env_one (i := 1) (d := 66) (k := .row knF5) (step_move (by kernel_rfl) (Opd.of_base 3 rfl) rfl) (by kernel_rfl) (by decide) h ?_
  clear h
  intro a w h
  refine env_one (i := 2) (d := 67) (k := .val (.int .i64 ((Tm.len knF5 : Nat) : Int))) (step_len_row (by kernel_rfl) (Opd.of_base 66 rfl) rfl) (by kernel_rfl) (by decide) h ?_
  clear h
  intro a w h
  refine env_one (i := 3) (d := 68) (k := .val (.bool true)) (step_lt_int (m := ((ii : Nat) : Int)) (n := ((Tm.len knF5 : Nat) : Int)) (by kernel_rfl) (Opd.of_base 65 rfl) (Opd.of_base 67 rfl) (decide_eq_true (by rw [kn_len]; omega)) rfl) (by kernel_rfl) (by decide) h ?_
  clear h
  intro a w h
  exact hQ a w (h.keep [3, 4, 999, 68])
theorem kn4n_region {Q : Exit → Act → World → Prop} (ii : Nat) (hi : ¬ ii < 22) {w0 : World} {a : Act} {w : World} (h : Hold 210 [(3, .row knF5), (4, .val (.int .i64 ((ii : Nat) : Int))), (999, .tabs)] w0 a w)
    (hQ : ∀ a' w', Hold 210 [(3, .row knF5), (4, .val (.int .i64 ((ii : Nat) : Int))), (999, .tabs), (68, .val (.bool false))] w0 a' w' → Q .normal a' w') : (Code.region 4 kn4Ops false).wp Tryd.prog Q a w := by
  refine region_seq (w0 := w) 4 (by kernel_rfl) ?_
  rw [show List.range 4 = [0, 1, 2, 3] from rfl]
  refine env_one (i := 0) (d := 65) (k := .val (.int .i64 ((ii : Nat) : Int))) (step_move (by kernel_rfl) (Opd.of_base 4 rfl) rfl) (by kernel_rfl) (by decide) h ?_
  clear h
  intro a w h
  refine env_one (i := 1) (d := 66) (k := .row knF5) (step_move (by kernel_rfl) (Opd.of_base 3 rfl) rfl) (by kernel_rfl) (by decide) h ?_
  clear h
  intro a w h
  refine env_one (i := 2) (d := 67) (k := .val (.int .i64 ((Tm.len knF5 : Nat) : Int))) (step_len_row (by kernel_rfl) (Opd.of_base 66 rfl) rfl) (by kernel_rfl) (by decide) h ?_
  clear h
  intro a w h
  refine env_one (i := 3) (d := 68) (k := .val (.bool false)) (step_lt_int (m := ((ii : Nat) : Int)) (n := ((Tm.len knF5 : Nat) : Int)) (by kernel_rfl) (Opd.of_base 65 rfl) (Opd.of_base 67 rfl) (decide_eq_false (by rw [kn_len]; omega)) rfl) (by kernel_rfl) (by decide) h ?_
  clear h
  intro a w h
  exact hQ a w (h.keep [3, 4, 999, 68])
theorem kn6_region {Q : Exit → Act → World → Prop} (ii : Nat)  {w0 : World} {a : Act} {w : World} (h : Hold 210 [(3, .row knF5), (4, .val (.int .i64 ((ii : Nat) : Int))), (999, .tabs)] w0 a w)
    (hQ : ∀ a' w', Hold 210 [(3, .row knF5), (4, .val (.int .i64 ((ii : Nat) : Int))), (5, .val (.int .i64 0)), (999, .tabs)] w0 a' w' → Q .normal a' w') : (Code.region 6 kn6Ops false).wp Tryd.prog Q a w := by
  refine region_seq (w0 := w) 1 (by kernel_rfl) ?_
  rw [show List.range 1 = [0] from rfl]
  refine env_one (i := 0) (d := 5) (k := .val (.int .i64 0)) (step_assign (by kernel_rfl) (Opd.const _) rfl) (by kernel_rfl) (by decide) h ?_
  clear h
  intro a w h
  exact hQ a w (h.keep [3, 4, 5, 999])
theorem kn7y_region {Q : Exit → Act → World → Prop} (ii k : Nat) (hi : k < 22) {w0 : World} {a : Act} {w : World} (h : Hold 210 [(3, .row knF5), (4, .val (.int .i64 ((ii : Nat) : Int))), (5, .val (.int .i64 ((k : Nat) : Int))), (999, .tabs)] w0 a w)
    (hQ : ∀ a' w', Hold 210 [(3, .row knF5), (4, .val (.int .i64 ((ii : Nat) : Int))), (5, .val (.int .i64 ((k : Nat) : Int))), (999, .tabs), (74, .val (.bool true))] w0 a' w' → Q .normal a' w') : (Code.region 7 kn7Ops false).wp Tryd.prog Q a w := by
  refine region_seq (w0 := w) 4 (by kernel_rfl) ?_
  rw [show List.range 4 = [0, 1, 2, 3] from rfl]
  refine env_one (i := 0) (d := 71) (k := .val (.int .i64 ((k : Nat) : Int))) (step_move (by kernel_rfl) (Opd.of_base 5 rfl) rfl) (by kernel_rfl) (by decide) h ?_
  clear h
  intro a w h
  refine env_one (i := 1) (d := 72) (k := .row knF5) (step_move (by kernel_rfl) (Opd.of_base 3 rfl) rfl) (by kernel_rfl) (by decide) h ?_
  clear h
  intro a w h
  refine env_one (i := 2) (d := 73) (k := .val (.int .i64 ((Tm.len knF5 : Nat) : Int))) (step_len_row (by kernel_rfl) (Opd.of_base 72 rfl) rfl) (by kernel_rfl) (by decide) h ?_
  clear h
  intro a w h
  refine env_one (i := 3) (d := 74) (k := .val (.bool true)) (step_lt_int (m := ((k : Nat) : Int)) (n := ((Tm.len knF5 : Nat) : Int)) (by kernel_rfl) (Opd.of_base 71 rfl) (Opd.of_base 73 rfl) (decide_eq_true (by rw [kn_len]; omega)) rfl) (by kernel_rfl) (by decide) h ?_
  clear h
  intro a w h
  exact hQ a w (h.keep [3, 4, 5, 999, 74])
theorem kn7n_region {Q : Exit → Act → World → Prop} (ii k : Nat) (hi : ¬ k < 22) {w0 : World} {a : Act} {w : World} (h : Hold 210 [(3, .row knF5), (4, .val (.int .i64 ((ii : Nat) : Int))), (5, .val (.int .i64 ((k : Nat) : Int))), (999, .tabs)] w0 a w)
    (hQ : ∀ a' w', Hold 210 [(3, .row knF5), (4, .val (.int .i64 ((ii : Nat) : Int))), (5, .val (.int .i64 ((k : Nat) : Int))), (999, .tabs), (74, .val (.bool false))] w0 a' w' → Q .normal a' w') : (Code.region 7 kn7Ops false).wp Tryd.prog Q a w := by
  refine region_seq (w0 := w) 4 (by kernel_rfl) ?_
  rw [show List.range 4 = [0, 1, 2, 3] from rfl]
  refine env_one (i := 0) (d := 71) (k := .val (.int .i64 ((k : Nat) : Int))) (step_move (by kernel_rfl) (Opd.of_base 5 rfl) rfl) (by kernel_rfl) (by decide) h ?_
  clear h
  intro a w h
  refine env_one (i := 1) (d := 72) (k := .row knF5) (step_move (by kernel_rfl) (Opd.of_base 3 rfl) rfl) (by kernel_rfl) (by decide) h ?_
  clear h
  intro a w h
  refine env_one (i := 2) (d := 73) (k := .val (.int .i64 ((Tm.len knF5 : Nat) : Int))) (step_len_row (by kernel_rfl) (Opd.of_base 72 rfl) rfl) (by kernel_rfl) (by decide) h ?_
  clear h
  intro a w h
  refine env_one (i := 3) (d := 74) (k := .val (.bool false)) (step_lt_int (m := ((k : Nat) : Int)) (n := ((Tm.len knF5 : Nat) : Int)) (by kernel_rfl) (Opd.of_base 71 rfl) (Opd.of_base 73 rfl) (decide_eq_false (by rw [kn_len]; omega)) rfl) (by kernel_rfl) (by decide) h ?_
  clear h
  intro a w h
  exact hQ a w (h.keep [3, 4, 5, 999, 74])
theorem kn9_region {Q : Exit → Act → World → Prop} (ii k : Nat)  {w0 : World} {a : Act} {w : World} (h : Hold 210 [(3, .row knF5), (4, .val (.int .i64 ((ii : Nat) : Int))), (5, .val (.int .i64 ((k : Nat) : Int))), (999, .tabs)] w0 a w)
    (hQ : ∀ a' w', Hold 210 [(3, .row knF5), (4, .val (.int .i64 ((ii : Nat) : Int))), (5, .val (.int .i64 ((k : Nat) : Int))), (6, .val (.int .i64 0)), (999, .tabs)] w0 a' w' → Q .normal a' w') : (Code.region 9 kn9Ops false).wp Tryd.prog Q a w := by
  refine region_seq (w0 := w) 1 (by kernel_rfl) ?_
  rw [show List.range 1 = [0] from rfl]
  refine env_one (i := 0) (d := 6) (k := .val (.int .i64 0)) (step_assign (by kernel_rfl) (Opd.const _) rfl) (by kernel_rfl) (by decide) h ?_
  clear h
  intro a w h
  exact hQ a w (h.keep [3, 4, 5, 6, 999])
theorem kn10_region {Q : Exit → Act → World → Prop} (ii k : Nat) (x : Int)  {w0 : World} {a : Act} {w : World} (h : Hold 210 [(3, .row knF5), (4, .val (.int .i64 ((ii : Nat) : Int))), (5, .val (.int .i64 ((k : Nat) : Int))), (6, .val (.int .i64 x)), (999, .tabs)] w0 a w)
    (hQ : ∀ a' w', Hold 210 [(3, .row knF5), (4, .val (.int .i64 ((ii : Nat) : Int))), (5, .val (.int .i64 ((k : Nat) : Int))), (6, .val (.int .i64 x)), (999, .tabs), (79, .val (.bool (decide (((ii : Nat) : Int) < ((k : Nat) : Int)))))] w0 a' w' → Q .normal a' w') : (Code.region 10 kn10Ops false).wp Tryd.prog Q a w := by
  refine region_seq (w0 := w) 3 (by kernel_rfl) ?_
  rw [show List.range 3 = [0, 1, 2] from rfl]
  refine env_one (i := 0) (d := 77) (k := .val (.int .i64 ((ii : Nat) : Int))) (step_move (by kernel_rfl) (Opd.of_base 4 rfl) rfl) (by kernel_rfl) (by decide) h ?_
  clear h
  intro a w h
  refine env_one (i := 1) (d := 78) (k := .val (.int .i64 ((k : Nat) : Int))) (step_move (by kernel_rfl) (Opd.of_base 5 rfl) rfl) (by kernel_rfl) (by decide) h ?_
  clear h
  intro a w h
  refine env_one (i := 2) (d := 79) (k := .val (.bool (decide (((ii : Nat) : Int) < ((k : Nat) : Int))))) (step_lt_int (m := ((ii : Nat) : Int)) (n := ((k : Nat) : Int)) (by kernel_rfl) (Opd.of_base 77 rfl) (Opd.of_base 78 rfl) rfl rfl) (by kernel_rfl) (by decide) h ?_
  clear h
  intro a w h
  exact hQ a w (h.keep [3, 4, 5, 6, 999, 79])
theorem kn11_region {Q : Exit → Act → World → Prop} (ii k : Nat) (x : Int)  {w0 : World} {a : Act} {w : World} (h : Hold 210 [(3, .row knF5), (4, .val (.int .i64 ((ii : Nat) : Int))), (5, .val (.int .i64 ((k : Nat) : Int))), (6, .val (.int .i64 x)), (999, .tabs)] w0 a w)
    (hQ : ∀ a' w', Hold 210 [(3, .row knF5), (4, .val (.int .i64 ((ii : Nat) : Int))), (5, .val (.int .i64 ((k : Nat) : Int))), (6, .val (.int .i64 (-1))), (999, .tabs)] w0 a' w' → Q .normal a' w') : (Code.region 11 kn11Ops false).wp Tryd.prog Q a w := by
  refine region_seq (w0 := w) 1 (by kernel_rfl) ?_
  rw [show List.range 1 = [0] from rfl]
  refine env_one (i := 0) (d := 6) (k := .val (.int .i64 (-1))) (step_assign (by kernel_rfl) (Opd.const _) rfl) (by kernel_rfl) (by decide) h ?_
  clear h
  intro a w h
  exact hQ a w (h.keep [3, 4, 5, 6, 999])
theorem kn12_region {Q : Exit → Act → World → Prop} (ii k : Nat) (x : Int)  {w0 : World} {a : Act} {w : World} (h : Hold 210 [(3, .row knF5), (4, .val (.int .i64 ((ii : Nat) : Int))), (5, .val (.int .i64 ((k : Nat) : Int))), (6, .val (.int .i64 x)), (999, .tabs)] w0 a w)
    (hQ : ∀ a' w', Hold 210 [(3, .row knF5), (4, .val (.int .i64 ((ii : Nat) : Int))), (5, .val (.int .i64 ((k : Nat) : Int))), (6, .val (.int .i64 x)), (999, .tabs), (82, .val (.bool (decide (((k : Nat) : Int) < ((ii : Nat) : Int)))))] w0 a' w' → Q .normal a' w') : (Code.region 12 kn12Ops false).wp Tryd.prog Q a w := by
  refine region_seq (w0 := w) 3 (by kernel_rfl) ?_
  rw [show List.range 3 = [0, 1, 2] from rfl]
  refine env_one (i := 0) (d := 80) (k := .val (.int .i64 ((ii : Nat) : Int))) (step_move (by kernel_rfl) (Opd.of_base 4 rfl) rfl) (by kernel_rfl) (by decide) h ?_
  clear h
  intro a w h
  refine env_one (i := 1) (d := 81) (k := .val (.int .i64 ((k : Nat) : Int))) (step_move (by kernel_rfl) (Opd.of_base 5 rfl) rfl) (by kernel_rfl) (by decide) h ?_
  clear h
  intro a w h
  refine env_one (i := 2) (d := 82) (k := .val (.bool (decide (((k : Nat) : Int) < ((ii : Nat) : Int))))) (step_gt_int (m := ((ii : Nat) : Int)) (n := ((k : Nat) : Int)) (by kernel_rfl) (Opd.of_base 80 rfl) (Opd.of_base 81 rfl) rfl rfl) (by kernel_rfl) (by decide) h ?_
  clear h
  intro a w h
  exact hQ a w (h.keep [3, 4, 5, 6, 999, 82])
theorem kn13_region {Q : Exit → Act → World → Prop} (ii k : Nat) (x : Int)  {w0 : World} {a : Act} {w : World} (h : Hold 210 [(3, .row knF5), (4, .val (.int .i64 ((ii : Nat) : Int))), (5, .val (.int .i64 ((k : Nat) : Int))), (6, .val (.int .i64 x)), (999, .tabs)] w0 a w)
    (hQ : ∀ a' w', Hold 210 [(3, .row knF5), (4, .val (.int .i64 ((ii : Nat) : Int))), (5, .val (.int .i64 ((k : Nat) : Int))), (6, .val (.int .i64 1)), (999, .tabs)] w0 a' w' → Q .normal a' w') : (Code.region 13 kn13Ops false).wp Tryd.prog Q a w := by
  refine region_seq (w0 := w) 1 (by kernel_rfl) ?_
  rw [show List.range 1 = [0] from rfl]
  refine env_one (i := 0) (d := 6) (k := .val (.int .i64 1)) (step_assign (by kernel_rfl) (Opd.const _) rfl) (by kernel_rfl) (by decide) h ?_
  clear h
  intro a w h
  exact hQ a w (h.keep [3, 4, 5, 6, 999])
def kn14Es (ii k : Nat) (x : Int) (p1 : Pay) (l1 r1 : Fo) (p2 : Pay) (l2 r2 : Fo) : List Kd := [
  .row knF5,
  .val (.int .i64 ((ii : Nat) : Int)),
  .ptrT p1 l1,
  .term p1 l1,
  .row knF5,
  .val (.int .i64 ((k : Nat) : Int)),
  .ptrT p2 l2,
  .term p2 l2,
  .val (.int .i64 (Tm.cmpV p1 l1 p2 l2)),
  .val (.int .i64 x),
  .val (.bool false)]
def kn14Ds : List Nat := [83, 84, 85, 86, 87, 88, 89, 90, 91, 92, 93]
def kn14Env (ii k : Nat) (x : Int) (p1 : Pay) (l1 r1 : Fo) (p2 : Pay) (l2 r2 : Fo) : Env := [(3, .row knF5), (4, .val (.int .i64 ((ii : Nat) : Int))), (5, .val (.int .i64 ((k : Nat) : Int))), (6, .val (.int .i64 x)), (999, .tabs)]
theorem kn14_0 {Q : Exit → Act → World → Prop} (ii k : Nat) (x : Int) (p1 : Pay) (l1 r1 : Fo) (p2 : Pay) (l2 r2 : Fo) (d1 : Tm.dropF knF5 ii = .node p1 l1 r1) (d2 : Tm.dropF knF5 k = .node p2 l2 r2) (hc : Tm.cmpV p1 l1 p2 l2 = x) : RStep kn14Ops Q (fun i => ((kn14Es ii k x p1 l1 r1 p2 l2 r2)[i]?).getD .any) (fun i => (kn14Ds[i]?).getD (1000 + i)) (look (kn14Env ii k x p1 l1 r1 p2 l2 r2)) 210 0 := fun _ => step_move (by kernel_rfl) (Opd.of_base 3 rfl) rfl
theorem kn14_1 {Q : Exit → Act → World → Prop} (ii k : Nat) (x : Int) (p1 : Pay) (l1 r1 : Fo) (p2 : Pay) (l2 r2 : Fo) (d1 : Tm.dropF knF5 ii = .node p1 l1 r1) (d2 : Tm.dropF knF5 k = .node p2 l2 r2) (hc : Tm.cmpV p1 l1 p2 l2 = x) : RStep kn14Ops Q (fun i => ((kn14Es ii k x p1 l1 r1 p2 l2 r2)[i]?).getD .any) (fun i => (kn14Ds[i]?).getD (1000 + i)) (look (kn14Env ii k x p1 l1 r1 p2 l2 r2)) 210 1 := fun _ => step_move (by kernel_rfl) (Opd.of_base 4 rfl) rfl
theorem kn14_2 {Q : Exit → Act → World → Prop} (ii k : Nat) (x : Int) (p1 : Pay) (l1 r1 : Fo) (p2 : Pay) (l2 r2 : Fo) (d1 : Tm.dropF knF5 ii = .node p1 l1 r1) (d2 : Tm.dropF knF5 k = .node p2 l2 r2) (hc : Tm.cmpV p1 l1 p2 l2 = x) : RStep kn14Ops Q (fun i => ((kn14Es ii k x p1 l1 r1 p2 l2 r2)[i]?).getD .any) (fun i => (kn14Ds[i]?).getD (1000 + i)) (look (kn14Env ii k x p1 l1 r1 p2 l2 r2)) 210 2 := fun _ => step_row_at (k := ii) (r := r1) (by kernel_rfl) (Opd.dep 0 rfl rfl (by kernel_rfl)) (Opd.dep 1 rfl rfl (by kernel_rfl)) d1 rfl
theorem kn14_3 {Q : Exit → Act → World → Prop} (ii k : Nat) (x : Int) (p1 : Pay) (l1 r1 : Fo) (p2 : Pay) (l2 r2 : Fo) (d1 : Tm.dropF knF5 ii = .node p1 l1 r1) (d2 : Tm.dropF knF5 k = .node p2 l2 r2) (hc : Tm.cmpV p1 l1 p2 l2 = x) : RStep kn14Ops Q (fun i => ((kn14Es ii k x p1 l1 r1 p2 l2 r2)[i]?).getD .any) (fun i => (kn14Ds[i]?).getD (1000 + i)) (look (kn14Env ii k x p1 l1 r1 p2 l2 r2)) 210 3 := fun _ => step_load_term (by kernel_rfl) (Opd.dep 2 rfl rfl (by kernel_rfl)) rfl
theorem kn14_4 {Q : Exit → Act → World → Prop} (ii k : Nat) (x : Int) (p1 : Pay) (l1 r1 : Fo) (p2 : Pay) (l2 r2 : Fo) (d1 : Tm.dropF knF5 ii = .node p1 l1 r1) (d2 : Tm.dropF knF5 k = .node p2 l2 r2) (hc : Tm.cmpV p1 l1 p2 l2 = x) : RStep kn14Ops Q (fun i => ((kn14Es ii k x p1 l1 r1 p2 l2 r2)[i]?).getD .any) (fun i => (kn14Ds[i]?).getD (1000 + i)) (look (kn14Env ii k x p1 l1 r1 p2 l2 r2)) 210 4 := fun _ => step_move (by kernel_rfl) (Opd.of_base 3 rfl) rfl
theorem kn14_5 {Q : Exit → Act → World → Prop} (ii k : Nat) (x : Int) (p1 : Pay) (l1 r1 : Fo) (p2 : Pay) (l2 r2 : Fo) (d1 : Tm.dropF knF5 ii = .node p1 l1 r1) (d2 : Tm.dropF knF5 k = .node p2 l2 r2) (hc : Tm.cmpV p1 l1 p2 l2 = x) : RStep kn14Ops Q (fun i => ((kn14Es ii k x p1 l1 r1 p2 l2 r2)[i]?).getD .any) (fun i => (kn14Ds[i]?).getD (1000 + i)) (look (kn14Env ii k x p1 l1 r1 p2 l2 r2)) 210 5 := fun _ => step_move (by kernel_rfl) (Opd.of_base 5 rfl) rfl
theorem kn14_6 {Q : Exit → Act → World → Prop} (ii k : Nat) (x : Int) (p1 : Pay) (l1 r1 : Fo) (p2 : Pay) (l2 r2 : Fo) (d1 : Tm.dropF knF5 ii = .node p1 l1 r1) (d2 : Tm.dropF knF5 k = .node p2 l2 r2) (hc : Tm.cmpV p1 l1 p2 l2 = x) : RStep kn14Ops Q (fun i => ((kn14Es ii k x p1 l1 r1 p2 l2 r2)[i]?).getD .any) (fun i => (kn14Ds[i]?).getD (1000 + i)) (look (kn14Env ii k x p1 l1 r1 p2 l2 r2)) 210 6 := fun _ => step_row_at (k := k) (r := r2) (by kernel_rfl) (Opd.dep 4 rfl rfl (by kernel_rfl)) (Opd.dep 5 rfl rfl (by kernel_rfl)) d2 rfl
theorem kn14_7 {Q : Exit → Act → World → Prop} (ii k : Nat) (x : Int) (p1 : Pay) (l1 r1 : Fo) (p2 : Pay) (l2 r2 : Fo) (d1 : Tm.dropF knF5 ii = .node p1 l1 r1) (d2 : Tm.dropF knF5 k = .node p2 l2 r2) (hc : Tm.cmpV p1 l1 p2 l2 = x) : RStep kn14Ops Q (fun i => ((kn14Es ii k x p1 l1 r1 p2 l2 r2)[i]?).getD .any) (fun i => (kn14Ds[i]?).getD (1000 + i)) (look (kn14Env ii k x p1 l1 r1 p2 l2 r2)) 210 7 := fun _ => step_load_term (by kernel_rfl) (Opd.dep 6 rfl rfl (by kernel_rfl)) rfl
theorem kn14_8 {Q : Exit → Act → World → Prop} (ii k : Nat) (x : Int) (p1 : Pay) (l1 r1 : Fo) (p2 : Pay) (l2 r2 : Fo) (d1 : Tm.dropF knF5 ii = .node p1 l1 r1) (d2 : Tm.dropF knF5 k = .node p2 l2 r2) (hc : Tm.cmpV p1 l1 p2 l2 = x) : RStep kn14Ops Q (fun i => ((kn14Es ii k x p1 l1 r1 p2 l2 r2)[i]?).getD .any) (fun i => (kn14Ds[i]?).getD (1000 + i)) (look (kn14Env ii k x p1 l1 r1 p2 l2 r2)) 210 8 := fun _ => step_ocmp 999 (by kernel_rfl) (Opd.dep 3 rfl rfl (by kernel_rfl)) (Opd.dep 7 rfl rfl (by kernel_rfl)) (Opd.of_base 999 rfl) rfl
theorem kn14_9 {Q : Exit → Act → World → Prop} (ii k : Nat) (x : Int) (p1 : Pay) (l1 r1 : Fo) (p2 : Pay) (l2 r2 : Fo) (d1 : Tm.dropF knF5 ii = .node p1 l1 r1) (d2 : Tm.dropF knF5 k = .node p2 l2 r2) (hc : Tm.cmpV p1 l1 p2 l2 = x) : RStep kn14Ops Q (fun i => ((kn14Es ii k x p1 l1 r1 p2 l2 r2)[i]?).getD .any) (fun i => (kn14Ds[i]?).getD (1000 + i)) (look (kn14Env ii k x p1 l1 r1 p2 l2 r2)) 210 9 := fun _ => step_move (by kernel_rfl) (Opd.of_base 6 rfl) rfl
theorem kn14_10 {Q : Exit → Act → World → Prop} (ii k : Nat) (x : Int) (p1 : Pay) (l1 r1 : Fo) (p2 : Pay) (l2 r2 : Fo) (d1 : Tm.dropF knF5 ii = .node p1 l1 r1) (d2 : Tm.dropF knF5 k = .node p2 l2 r2) (hc : Tm.cmpV p1 l1 p2 l2 = x) : RStep kn14Ops Q (fun i => ((kn14Es ii k x p1 l1 r1 p2 l2 r2)[i]?).getD .any) (fun i => (kn14Ds[i]?).getD (1000 + i)) (look (kn14Env ii k x p1 l1 r1 p2 l2 r2)) 210 10 := fun _ => step_ne_int (m := (Tm.cmpV p1 l1 p2 l2)) (n := x) (by kernel_rfl) (Opd.dep 8 rfl rfl (by kernel_rfl)) (Opd.dep 9 rfl rfl (by kernel_rfl)) (by rw [hc]; simp) rfl
theorem kn14_region {Q : Exit → Act → World → Prop} (ii k : Nat) (x : Int) (p1 : Pay) (l1 r1 : Fo) (p2 : Pay) (l2 r2 : Fo) (d1 : Tm.dropF knF5 ii = .node p1 l1 r1) (d2 : Tm.dropF knF5 k = .node p2 l2 r2) (hc : Tm.cmpV p1 l1 p2 l2 = x) {w0 : World} {a : Act} {w : World} (h : Hold 210 [(3, .row knF5), (4, .val (.int .i64 ((ii : Nat) : Int))), (5, .val (.int .i64 ((k : Nat) : Int))), (6, .val (.int .i64 x)), (999, .tabs)] w0 a w)
    (hQ : ∀ a' w', Hold 210 [(3, .row knF5), (4, .val (.int .i64 ((ii : Nat) : Int))), (5, .val (.int .i64 ((k : Nat) : Int))), (999, .tabs), (93, .val (.bool false))] w0 a' w' → Q .normal a' w') : (Code.region 14 kn14Ops true).wp Tryd.prog Q a w := by
  have hall : ∀ i, i < 0 → RStep kn14Ops Q (fun i => ((kn14Es ii k x p1 l1 r1 p2 l2 r2)[i]?).getD .any) (fun i => (kn14Ds[i]?).getD (1000 + i)) (look (kn14Env ii k x p1 l1 r1 p2 l2 r2)) 210 i := fun i hi => absurd hi (by omega)
  have hall := below_succ hall (kn14_0 ii k x p1 l1 r1 p2 l2 r2 d1 d2 hc)
  have hall := below_succ hall (kn14_1 ii k x p1 l1 r1 p2 l2 r2 d1 d2 hc)
  have hall := below_succ hall (kn14_2 ii k x p1 l1 r1 p2 l2 r2 d1 d2 hc)
  have hall := below_succ hall (kn14_3 ii k x p1 l1 r1 p2 l2 r2 d1 d2 hc)
  have hall := below_succ hall (kn14_4 ii k x p1 l1 r1 p2 l2 r2 d1 d2 hc)
  have hall := below_succ hall (kn14_5 ii k x p1 l1 r1 p2 l2 r2 d1 d2 hc)
  have hall := below_succ hall (kn14_6 ii k x p1 l1 r1 p2 l2 r2 d1 d2 hc)
  have hall := below_succ hall (kn14_7 ii k x p1 l1 r1 p2 l2 r2 d1 d2 hc)
  have hall := below_succ hall (kn14_8 ii k x p1 l1 r1 p2 l2 r2 d1 d2 hc)
  have hall := below_succ hall (kn14_9 ii k x p1 l1 r1 p2 l2 r2 d1 d2 hc)
  have hall := below_succ hall (kn14_10 ii k x p1 l1 r1 p2 l2 r2 d1 d2 hc)
  refine env_any (env := kn14Env ii k x p1 l1 r1 p2 l2 r2) (N := 210) (w0 := w0) kn14Ds (kn14Es ii k x p1 l1 r1 p2 l2 r2) (by kernel_rfl) (by kernel_rfl) (of_decide_eq_true (by kernel_rfl)) (fun i_ hi_ => hall i_ (by rw [show (kn14Es ii k x p1 l1 r1 p2 l2 r2).length = 11 by kernel_rfl] at hi_; exact hi_)) h fun a' w' h => ?_
  exact hQ a' w' (h.keep [3, 4, 5, 999, 93])
theorem kn8_region {Q : Exit → Act → World → Prop} (ii k : Nat) (hk : k < 22) {w0 : World} {a : Act} {w : World} (h : Hold 210 [(3, .row knF5), (4, .val (.int .i64 ((ii : Nat) : Int))), (5, .val (.int .i64 ((k : Nat) : Int))), (999, .tabs)] w0 a w)
    (hQ : ∀ a' w', Hold 210 [(3, .row knF5), (4, .val (.int .i64 ((ii : Nat) : Int))), (5, .val (.int .i64 ((k + 1 : Nat) : Int))), (999, .tabs)] w0 a' w' → Q .normal a' w') : (Code.region 8 kn8Ops false).wp Tryd.prog Q a w := by
  refine region_seq (w0 := w) 3 (by kernel_rfl) ?_
  rw [show List.range 3 = [0, 1, 2] from rfl]
  refine env_one (i := 0) (d := 75) (k := .val (.int .i64 ((k : Nat) : Int))) (step_move (by kernel_rfl) (Opd.of_base 5 rfl) rfl) (by kernel_rfl) (by decide) h ?_
  clear h
  intro a w h
  refine env_one (i := 1) (d := 76) (k := .val (.int .i64 ((k + 1 : Nat) : Int))) (step_add (m := ((k : Nat) : Int)) (n := 1) (s := ((k + 1 : Nat) : Int)) (by kernel_rfl) (Opd.of_base 75 rfl) (Opd.const _) (by rw [IntKind.wrap_i64]; omega) rfl) (by kernel_rfl) (by decide) h ?_
  clear h
  intro a w h
  refine env_one (i := 2) (d := 5) (k := .val (.int .i64 ((k + 1 : Nat) : Int))) (step_assign (by kernel_rfl) (Opd.of_base 76 rfl) rfl) (by kernel_rfl) (by decide) h ?_
  clear h
  intro a w h
  exact hQ a w (h.keep [3, 4, 5, 999])
theorem kn5_region {Q : Exit → Act → World → Prop} (ii : Nat) (hk : ii < 22) {w0 : World} {a : Act} {w : World} (h : Hold 210 [(3, .row knF5), (4, .val (.int .i64 ((ii : Nat) : Int))), (999, .tabs)] w0 a w)
    (hQ : ∀ a' w', Hold 210 [(3, .row knF5), (4, .val (.int .i64 ((ii + 1 : Nat) : Int))), (999, .tabs)] w0 a' w' → Q .normal a' w') : (Code.region 5 kn5Ops false).wp Tryd.prog Q a w := by
  refine region_seq (w0 := w) 3 (by kernel_rfl) ?_
  rw [show List.range 3 = [0, 1, 2] from rfl]
  refine env_one (i := 0) (d := 69) (k := .val (.int .i64 ((ii : Nat) : Int))) (step_move (by kernel_rfl) (Opd.of_base 4 rfl) rfl) (by kernel_rfl) (by decide) h ?_
  clear h
  intro a w h
  refine env_one (i := 1) (d := 70) (k := .val (.int .i64 ((ii + 1 : Nat) : Int))) (step_add (m := ((ii : Nat) : Int)) (n := 1) (s := ((ii + 1 : Nat) : Int)) (by kernel_rfl) (Opd.of_base 69 rfl) (Opd.const _) (by rw [IntKind.wrap_i64]; omega) rfl) (by kernel_rfl) (by decide) h ?_
  clear h
  intro a w h
  refine env_one (i := 2) (d := 4) (k := .val (.int .i64 ((ii + 1 : Nat) : Int))) (step_assign (by kernel_rfl) (Opd.of_base 70 rfl) rfl) (by kernel_rfl) (by decide) h ?_
  clear h
  intro a w h
  exact hQ a w (h.keep [3, 4, 999])
theorem kn16_region {Q : Exit → Act → World → Prop}   {w0 : World} {a : Act} {w : World} (h : Hold 210 [(999, .tabs)] w0 a w)
    (hQ : ∀ a' w', Hold 210 [(8, .val (.int .i64 (keysR knF7).2)), (999, .tabs)] w0 a' w' → Q .normal a' w') : (Code.region 16 kn16Ops false).wp Tryd.prog Q a w := by
  refine region_seq (w0 := w) 12 (by kernel_rfl) ?_
  rw [show List.range 12 = [0, 1, 2, 3, 4, 5, 6, 7, 8, 9, 10, 11] from rfl]
  refine env_one (i := 0) (d := 95) (k := .term ((2, 0, ⟨#[98]⟩) : Pay) .nil) (step_a (by kernel_rfl) (Opd.const _) rfl) (by kernel_rfl) (by decide) h ?_
  clear h
  intro a w h
  refine env_one (i := 1) (d := 96) (k := .term ((1, 1, ByteArray.empty) : Pay) .nil) (step_n (by kernel_rfl) (Opd.const _) rfl) (by kernel_rfl) (by decide) h ?_
  clear h
  intro a w h
  refine env_one (i := 2) (d := 97) (k := .row knF6) (step_slice2 (by kernel_rfl) (Opd.of_base 95 rfl) (Opd.of_base 96 rfl) rfl) (by kernel_rfl) (by decide) h ?_
  clear h
  intro a w h
  refine env_one (i := 3) (d := 98) (k := .term ((3, 0, ⟨#[45]⟩) : Pay) knF6) (step_f (by kernel_rfl) (Opd.const _) (Opd.of_base 97 rfl) rfl) (by kernel_rfl) (by decide) h ?_
  clear h
  intro a w h
  refine env_one (i := 4) (d := 99) (k := .term ((2, 0, ⟨#[97]⟩) : Pay) .nil) (step_a (by kernel_rfl) (Opd.const _) rfl) (by kernel_rfl) (by decide) h ?_
  clear h
  intro a w h
  refine env_one (i := 5) (d := 100) (k := .row knF7) (step_slice2 (by kernel_rfl) (Opd.of_base 98 rfl) (Opd.of_base 99 rfl) rfl) (by kernel_rfl) (by decide) h ?_
  clear h
  intro a w h
  refine env_one (i := 6) (d := 101) (k := .rowErr knF8 (keysR knF7).2) (step_okeys (by decide) 999 (by kernel_rfl) (Opd.of_base 100 rfl) (Opd.of_base 999 rfl) rfl) (by kernel_rfl) (by decide) h ?_
  clear h
  intro a w h
  refine env_one (i := 7) (d := 94) (k := .rowErr knF8 (keysR knF7).2) (step_move (by kernel_rfl) (Opd.of_base 101 rfl) rfl) (by kernel_rfl) (by decide) h ?_
  clear h
  intro a w h
  refine env_one (i := 8) (d := 102) (k := .row knF8) (step_rowErr0 (by kernel_rfl) (Opd.of_base 94 rfl) rfl) (by kernel_rfl) (by decide) h ?_
  clear h
  intro a w h
  refine env_one (i := 9) (d := 103) (k := .val (.int .i64 (keysR knF7).2)) (step_rowErr1 (by kernel_rfl) (Opd.of_base 94 rfl) rfl) (by kernel_rfl) (by decide) h ?_
  clear h
  intro a w h
  refine env_one (i := 10) (d := 7) (k := .row knF8) (step_assign (by kernel_rfl) (Opd.of_base 102 rfl) rfl) (by kernel_rfl) (by decide) h ?_
  clear h
  intro a w h
  refine env_one (i := 11) (d := 8) (k := .val (.int .i64 (keysR knF7).2)) (step_assign (by kernel_rfl) (Opd.of_base 103 rfl) rfl) (by kernel_rfl) (by decide) h ?_
  clear h
  intro a w h
  exact hQ a w (h.keep [8, 999])
theorem kn17_region {Q : Exit → Act → World → Prop}   {w0 : World} {a : Act} {w : World} (h : Hold 210 [(8, .val (.int .i64 (keysR knF7).2)), (999, .tabs)] w0 a w)
    (hQ : ∀ a' w', Hold 210 [(8, .val (.int .i64 (keysR knF7).2)), (10, .val (.int .i64 (keysR knF9).2)), (999, .tabs)] w0 a' w' → Q .normal a' w') : (Code.region 17 kn17Ops false).wp Tryd.prog Q a w := by
  refine region_seq (w0 := w) 9 (by kernel_rfl) ?_
  rw [show List.range 9 = [0, 1, 2, 3, 4, 5, 6, 7, 8] from rfl]
  refine env_one (i := 0) (d := 105) (k := .term ((2, 0, ⟨#[97]⟩) : Pay) .nil) (step_a (by kernel_rfl) (Opd.const _) rfl) (by kernel_rfl) (by decide) h ?_
  clear h
  intro a w h
  refine env_one (i := 1) (d := 106) (k := .term ((0, (-1), ByteArray.empty) : Pay) .nil) (step_x (by kernel_rfl) (Opd.const _) rfl) (by kernel_rfl) (by decide) h ?_
  clear h
  intro a w h
  refine env_one (i := 2) (d := 107) (k := .row knF9) (step_slice2 (by kernel_rfl) (Opd.of_base 105 rfl) (Opd.of_base 106 rfl) rfl) (by kernel_rfl) (by decide) h ?_
  clear h
  intro a w h
  refine env_one (i := 3) (d := 108) (k := .rowErr knF10 (keysR knF9).2) (step_okeys (by decide) 999 (by kernel_rfl) (Opd.of_base 107 rfl) (Opd.of_base 999 rfl) rfl) (by kernel_rfl) (by decide) h ?_
  clear h
  intro a w h
  refine env_one (i := 4) (d := 104) (k := .rowErr knF10 (keysR knF9).2) (step_move (by kernel_rfl) (Opd.of_base 108 rfl) rfl) (by kernel_rfl) (by decide) h ?_
  clear h
  intro a w h
  refine env_one (i := 5) (d := 109) (k := .row knF10) (step_rowErr0 (by kernel_rfl) (Opd.of_base 104 rfl) rfl) (by kernel_rfl) (by decide) h ?_
  clear h
  intro a w h
  refine env_one (i := 6) (d := 110) (k := .val (.int .i64 (keysR knF9).2)) (step_rowErr1 (by kernel_rfl) (Opd.of_base 104 rfl) rfl) (by kernel_rfl) (by decide) h ?_
  clear h
  intro a w h
  refine env_one (i := 7) (d := 9) (k := .row knF10) (step_assign (by kernel_rfl) (Opd.of_base 109 rfl) rfl) (by kernel_rfl) (by decide) h ?_
  clear h
  intro a w h
  refine env_one (i := 8) (d := 10) (k := .val (.int .i64 (keysR knF9).2)) (step_assign (by kernel_rfl) (Opd.of_base 110 rfl) rfl) (by kernel_rfl) (by decide) h ?_
  clear h
  intro a w h
  exact hQ a w (h.keep [8, 10, 999])
theorem kn18_region {Q : Exit → Act → World → Prop}   {w0 : World} {a : Act} {w : World} (h : Hold 210 [(8, .val (.int .i64 (keysR knF7).2)), (10, .val (.int .i64 (keysR knF9).2)), (999, .tabs)] w0 a w)
    (hQ : ∀ a' w', Hold 210 [(8, .val (.int .i64 (keysR knF7).2)), (10, .val (.int .i64 (keysR knF9).2)), (12, .val (.int .i64 (sortR knF11).2)), (999, .tabs)] w0 a' w' → Q .normal a' w') : (Code.region 18 kn18Ops false).wp Tryd.prog Q a w := by
  refine region_seq (w0 := w) 8 (by kernel_rfl) ?_
  rw [show List.range 8 = [0, 1, 2, 3, 4, 5, 6, 7] from rfl]
  refine env_one (i := 0) (d := 112) (k := .term ((0, (-1), ByteArray.empty) : Pay) .nil) (step_x (by kernel_rfl) (Opd.const _) rfl) (by kernel_rfl) (by decide) h ?_
  clear h
  intro a w h
  refine env_one (i := 1) (d := 113) (k := .row knF11) (step_slice1 (by kernel_rfl) (Opd.of_base 112 rfl) rfl) (by kernel_rfl) (by decide) h ?_
  clear h
  intro a w h
  refine env_one (i := 2) (d := 114) (k := .rowErr knF12 (sortR knF11).2) (step_osort (by decide) 999 (by kernel_rfl) (Opd.of_base 113 rfl) (Opd.of_base 999 rfl) rfl) (by kernel_rfl) (by decide) h ?_
  clear h
  intro a w h
  refine env_one (i := 3) (d := 111) (k := .rowErr knF12 (sortR knF11).2) (step_move (by kernel_rfl) (Opd.of_base 114 rfl) rfl) (by kernel_rfl) (by decide) h ?_
  clear h
  intro a w h
  refine env_one (i := 4) (d := 115) (k := .row knF12) (step_rowErr0 (by kernel_rfl) (Opd.of_base 111 rfl) rfl) (by kernel_rfl) (by decide) h ?_
  clear h
  intro a w h
  refine env_one (i := 5) (d := 116) (k := .val (.int .i64 (sortR knF11).2)) (step_rowErr1 (by kernel_rfl) (Opd.of_base 111 rfl) rfl) (by kernel_rfl) (by decide) h ?_
  clear h
  intro a w h
  refine env_one (i := 6) (d := 11) (k := .row knF12) (step_assign (by kernel_rfl) (Opd.of_base 115 rfl) rfl) (by kernel_rfl) (by decide) h ?_
  clear h
  intro a w h
  refine env_one (i := 7) (d := 12) (k := .val (.int .i64 (sortR knF11).2)) (step_assign (by kernel_rfl) (Opd.of_base 116 rfl) rfl) (by kernel_rfl) (by decide) h ?_
  clear h
  intro a w h
  exact hQ a w (h.keep [8, 10, 12, 999])
theorem kn19_region {Q : Exit → Act → World → Prop}   {w0 : World} {a : Act} {w : World} (h : Hold 210 [(8, .val (.int .i64 (keysR knF7).2)), (10, .val (.int .i64 (keysR knF9).2)), (12, .val (.int .i64 (sortR knF11).2)), (999, .tabs)] w0 a w)
    (hQ : ∀ a' w', Hold 210 [(8, .val (.int .i64 (keysR knF7).2)), (10, .val (.int .i64 (keysR knF9).2)), (12, .val (.int .i64 (sortR knF11).2)), (14, .val (.int .i64 (stableR knF13).2)), (999, .tabs)] w0 a' w' → Q .normal a' w') : (Code.region 19 kn19Ops false).wp Tryd.prog Q a w := by
  refine region_seq (w0 := w) 8 (by kernel_rfl) ?_
  rw [show List.range 8 = [0, 1, 2, 3, 4, 5, 6, 7] from rfl]
  refine env_one (i := 0) (d := 118) (k := .term ((3, 0, ⟨#[102]⟩) : Pay) .nil) (step_f (by kernel_rfl) (Opd.const _) Opd.nilRow rfl) (by kernel_rfl) (by decide) h ?_
  clear h
  intro a w h
  refine env_one (i := 1) (d := 119) (k := .row knF13) (step_slice1 (by kernel_rfl) (Opd.of_base 118 rfl) rfl) (by kernel_rfl) (by decide) h ?_
  clear h
  intro a w h
  refine env_one (i := 2) (d := 120) (k := .rowErr knF14 (stableR knF13).2) (step_ostable (by decide) 999 (by kernel_rfl) (Opd.of_base 119 rfl) (Opd.of_base 999 rfl) rfl) (by kernel_rfl) (by decide) h ?_
  clear h
  intro a w h
  refine env_one (i := 3) (d := 117) (k := .rowErr knF14 (stableR knF13).2) (step_move (by kernel_rfl) (Opd.of_base 120 rfl) rfl) (by kernel_rfl) (by decide) h ?_
  clear h
  intro a w h
  refine env_one (i := 4) (d := 121) (k := .row knF14) (step_rowErr0 (by kernel_rfl) (Opd.of_base 117 rfl) rfl) (by kernel_rfl) (by decide) h ?_
  clear h
  intro a w h
  refine env_one (i := 5) (d := 122) (k := .val (.int .i64 (stableR knF13).2)) (step_rowErr1 (by kernel_rfl) (Opd.of_base 117 rfl) rfl) (by kernel_rfl) (by decide) h ?_
  clear h
  intro a w h
  refine env_one (i := 6) (d := 13) (k := .row knF14) (step_assign (by kernel_rfl) (Opd.of_base 121 rfl) rfl) (by kernel_rfl) (by decide) h ?_
  clear h
  intro a w h
  refine env_one (i := 7) (d := 14) (k := .val (.int .i64 (stableR knF13).2)) (step_assign (by kernel_rfl) (Opd.of_base 122 rfl) rfl) (by kernel_rfl) (by decide) h ?_
  clear h
  intro a w h
  exact hQ a w (h.keep [8, 10, 12, 14, 999])
theorem kn20_region {Q : Exit → Act → World → Prop}   {w0 : World} {a : Act} {w : World} (h : Hold 210 [(8, .val (.int .i64 (keysR knF7).2)), (10, .val (.int .i64 (keysR knF9).2)), (12, .val (.int .i64 (sortR knF11).2)), (14, .val (.int .i64 (stableR knF13).2)), (999, .tabs)] w0 a w)
    (hQ : ∀ a' w', Hold 210 [(8, .val (.int .i64 (keysR knF7).2)), (10, .val (.int .i64 (keysR knF9).2)), (12, .val (.int .i64 (sortR knF11).2)), (14, .val (.int .i64 (stableR knF13).2)), (15, .row knF15), (16, .val (.int .i64 (sortR .nil).2)), (999, .tabs)] w0 a' w' → Q .normal a' w') : (Code.region 20 kn20Ops false).wp Tryd.prog Q a w := by
  refine region_seq (w0 := w) 6 (by kernel_rfl) ?_
  rw [show List.range 6 = [0, 1, 2, 3, 4, 5] from rfl]
  refine env_one (i := 0) (d := 124) (k := .rowErr knF15 (sortR .nil).2) (step_osort (by decide) 999 (by kernel_rfl) Opd.nilRow (Opd.of_base 999 rfl) rfl) (by kernel_rfl) (by decide) h ?_
  clear h
  intro a w h
  refine env_one (i := 1) (d := 123) (k := .rowErr knF15 (sortR .nil).2) (step_move (by kernel_rfl) (Opd.of_base 124 rfl) rfl) (by kernel_rfl) (by decide) h ?_
  clear h
  intro a w h
  refine env_one (i := 2) (d := 125) (k := .row knF15) (step_rowErr0 (by kernel_rfl) (Opd.of_base 123 rfl) rfl) (by kernel_rfl) (by decide) h ?_
  clear h
  intro a w h
  refine env_one (i := 3) (d := 126) (k := .val (.int .i64 (sortR .nil).2)) (step_rowErr1 (by kernel_rfl) (Opd.of_base 123 rfl) rfl) (by kernel_rfl) (by decide) h ?_
  clear h
  intro a w h
  refine env_one (i := 4) (d := 15) (k := .row knF15) (step_assign (by kernel_rfl) (Opd.of_base 125 rfl) rfl) (by kernel_rfl) (by decide) h ?_
  clear h
  intro a w h
  refine env_one (i := 5) (d := 16) (k := .val (.int .i64 (sortR .nil).2)) (step_assign (by kernel_rfl) (Opd.of_base 126 rfl) rfl) (by kernel_rfl) (by decide) h ?_
  clear h
  intro a w h
  exact hQ a w (h.keep [8, 10, 12, 14, 15, 16, 999])
theorem kn21_region {Q : Exit → Act → World → Prop}   {w0 : World} {a : Act} {w : World} (h : Hold 210 [(8, .val (.int .i64 (keysR knF7).2)), (10, .val (.int .i64 (keysR knF9).2)), (12, .val (.int .i64 (sortR knF11).2)), (14, .val (.int .i64 (stableR knF13).2)), (15, .row knF15), (16, .val (.int .i64 (sortR .nil).2)), (999, .tabs)] w0 a w)
    (hQ : ∀ a' w', Hold 210 [(8, .val (.int .i64 (keysR knF7).2)), (10, .val (.int .i64 (keysR knF9).2)), (12, .val (.int .i64 (sortR knF11).2)), (14, .val (.int .i64 (stableR knF13).2)), (15, .row knF15), (16, .val (.int .i64 (sortR .nil).2)), (17, .val (.int .i64 (rankI .nil ((2, 0, ⟨#[100]⟩) : Pay) .nil))), (18, .val (.bool (rankB .nil ((2, 0, ⟨#[100]⟩) : Pay) .nil))), (999, .tabs)] w0 a' w' → Q .normal a' w') : (Code.region 21 kn21Ops false).wp Tryd.prog Q a w := by
  refine region_seq (w0 := w) 7 (by kernel_rfl) ?_
  rw [show List.range 7 = [0, 1, 2, 3, 4, 5, 6] from rfl]
  refine env_one (i := 0) (d := 128) (k := .term ((2, 0, ⟨#[100]⟩) : Pay) .nil) (step_a (by kernel_rfl) (Opd.const _) rfl) (by kernel_rfl) (by decide) h ?_
  clear h
  intro a w h
  refine env_one (i := 1) (d := 129) (k := .val (.tuple #[.int .i64 (rankI .nil ((2, 0, ⟨#[100]⟩) : Pay) .nil), .bool (rankB .nil ((2, 0, ⟨#[100]⟩) : Pay) .nil)])) (step_orank (by decide) 999 (by kernel_rfl) Opd.nilRow (Opd.of_base 128 rfl) (Opd.of_base 999 rfl) rfl) (by kernel_rfl) (by decide) h ?_
  clear h
  intro a w h
  refine env_one (i := 2) (d := 127) (k := .val (.tuple #[.int .i64 (rankI .nil ((2, 0, ⟨#[100]⟩) : Pay) .nil), .bool (rankB .nil ((2, 0, ⟨#[100]⟩) : Pay) .nil)])) (step_move (by kernel_rfl) (Opd.of_base 129 rfl) rfl) (by kernel_rfl) (by decide) h ?_
  clear h
  intro a w h
  refine env_one (i := 3) (d := 130) (k := .val (.int .i64 (rankI .nil ((2, 0, ⟨#[100]⟩) : Pay) .nil))) (step_two0 (by kernel_rfl) (Opd.of_base 127 rfl) rfl) (by kernel_rfl) (by decide) h ?_
  clear h
  intro a w h
  refine env_one (i := 4) (d := 131) (k := .val (.bool (rankB .nil ((2, 0, ⟨#[100]⟩) : Pay) .nil))) (step_two1 (by kernel_rfl) (Opd.of_base 127 rfl) rfl) (by kernel_rfl) (by decide) h ?_
  clear h
  intro a w h
  refine env_one (i := 5) (d := 17) (k := .val (.int .i64 (rankI .nil ((2, 0, ⟨#[100]⟩) : Pay) .nil))) (step_assign (by kernel_rfl) (Opd.of_base 130 rfl) rfl) (by kernel_rfl) (by decide) h ?_
  clear h
  intro a w h
  refine env_one (i := 6) (d := 18) (k := .val (.bool (rankB .nil ((2, 0, ⟨#[100]⟩) : Pay) .nil))) (step_assign (by kernel_rfl) (Opd.of_base 131 rfl) rfl) (by kernel_rfl) (by decide) h ?_
  clear h
  intro a w h
  exact hQ a w (h.keep [8, 10, 12, 14, 15, 16, 17, 18, 999])
theorem kn22_region {Q : Exit → Act → World → Prop}   {w0 : World} {a : Act} {w : World} (h : Hold 210 [(8, .val (.int .i64 (keysR knF7).2)), (10, .val (.int .i64 (keysR knF9).2)), (12, .val (.int .i64 (sortR knF11).2)), (14, .val (.int .i64 (stableR knF13).2)), (15, .row knF15), (16, .val (.int .i64 (sortR .nil).2)), (17, .val (.int .i64 (rankI .nil ((2, 0, ⟨#[100]⟩) : Pay) .nil))), (18, .val (.bool (rankB .nil ((2, 0, ⟨#[100]⟩) : Pay) .nil))), (999, .tabs)] w0 a w)
    (hQ : ∀ a' w', Hold 210 [(8, .val (.int .i64 (keysR knF7).2)), (10, .val (.int .i64 (keysR knF9).2)), (12, .val (.int .i64 (sortR knF11).2)), (14, .val (.int .i64 (stableR knF13).2)), (15, .row knF15), (16, .val (.int .i64 (sortR .nil).2)), (17, .val (.int .i64 (rankI .nil ((2, 0, ⟨#[100]⟩) : Pay) .nil))), (18, .val (.bool (rankB .nil ((2, 0, ⟨#[100]⟩) : Pay) .nil))), (19, .val (.int .i64 (rankI knF16 ((2, 0, ⟨#[99]⟩) : Pay) .nil))), (20, .val (.bool (rankB knF16 ((2, 0, ⟨#[99]⟩) : Pay) .nil))), (999, .tabs)] w0 a' w' → Q .normal a' w') : (Code.region 22 kn22Ops false).wp Tryd.prog Q a w := by
  refine region_seq (w0 := w) 10 (by kernel_rfl) ?_
  rw [show List.range 10 = [0, 1, 2, 3, 4, 5, 6, 7, 8, 9] from rfl]
  refine env_one (i := 0) (d := 133) (k := .term ((2, 0, ⟨#[99]⟩) : Pay) .nil) (step_a (by kernel_rfl) (Opd.const _) rfl) (by kernel_rfl) (by decide) h ?_
  clear h
  intro a w h
  refine env_one (i := 1) (d := 134) (k := .term ((2, 0, ⟨#[97]⟩) : Pay) .nil) (step_a (by kernel_rfl) (Opd.const _) rfl) (by kernel_rfl) (by decide) h ?_
  clear h
  intro a w h
  refine env_one (i := 2) (d := 135) (k := .row knF16) (step_slice2 (by kernel_rfl) (Opd.of_base 133 rfl) (Opd.of_base 134 rfl) rfl) (by kernel_rfl) (by decide) h ?_
  clear h
  intro a w h
  refine env_one (i := 3) (d := 136) (k := .term ((2, 0, ⟨#[99]⟩) : Pay) .nil) (step_a (by kernel_rfl) (Opd.const _) rfl) (by kernel_rfl) (by decide) h ?_
  clear h
  intro a w h
  refine env_one (i := 4) (d := 137) (k := .val (.tuple #[.int .i64 (rankI knF16 ((2, 0, ⟨#[99]⟩) : Pay) .nil), .bool (rankB knF16 ((2, 0, ⟨#[99]⟩) : Pay) .nil)])) (step_orank (by decide) 999 (by kernel_rfl) (Opd.of_base 135 rfl) (Opd.of_base 136 rfl) (Opd.of_base 999 rfl) rfl) (by kernel_rfl) (by decide) h ?_
  clear h
  intro a w h
  refine env_one (i := 5) (d := 132) (k := .val (.tuple #[.int .i64 (rankI knF16 ((2, 0, ⟨#[99]⟩) : Pay) .nil), .bool (rankB knF16 ((2, 0, ⟨#[99]⟩) : Pay) .nil)])) (step_move (by kernel_rfl) (Opd.of_base 137 rfl) rfl) (by kernel_rfl) (by decide) h ?_
  clear h
  intro a w h
  refine env_one (i := 6) (d := 138) (k := .val (.int .i64 (rankI knF16 ((2, 0, ⟨#[99]⟩) : Pay) .nil))) (step_two0 (by kernel_rfl) (Opd.of_base 132 rfl) rfl) (by kernel_rfl) (by decide) h ?_
  clear h
  intro a w h
  refine env_one (i := 7) (d := 139) (k := .val (.bool (rankB knF16 ((2, 0, ⟨#[99]⟩) : Pay) .nil))) (step_two1 (by kernel_rfl) (Opd.of_base 132 rfl) rfl) (by kernel_rfl) (by decide) h ?_
  clear h
  intro a w h
  refine env_one (i := 8) (d := 19) (k := .val (.int .i64 (rankI knF16 ((2, 0, ⟨#[99]⟩) : Pay) .nil))) (step_assign (by kernel_rfl) (Opd.of_base 138 rfl) rfl) (by kernel_rfl) (by decide) h ?_
  clear h
  intro a w h
  refine env_one (i := 9) (d := 20) (k := .val (.bool (rankB knF16 ((2, 0, ⟨#[99]⟩) : Pay) .nil))) (step_assign (by kernel_rfl) (Opd.of_base 139 rfl) rfl) (by kernel_rfl) (by decide) h ?_
  clear h
  intro a w h
  exact hQ a w (h.keep [8, 10, 12, 14, 15, 16, 17, 18, 19, 20, 999])
theorem kn23_region {Q : Exit → Act → World → Prop}   {w0 : World} {a : Act} {w : World} (h : Hold 210 [(8, .val (.int .i64 (keysR knF7).2)), (10, .val (.int .i64 (keysR knF9).2)), (12, .val (.int .i64 (sortR knF11).2)), (14, .val (.int .i64 (stableR knF13).2)), (15, .row knF15), (16, .val (.int .i64 (sortR .nil).2)), (17, .val (.int .i64 (rankI .nil ((2, 0, ⟨#[100]⟩) : Pay) .nil))), (18, .val (.bool (rankB .nil ((2, 0, ⟨#[100]⟩) : Pay) .nil))), (19, .val (.int .i64 (rankI knF16 ((2, 0, ⟨#[99]⟩) : Pay) .nil))), (20, .val (.bool (rankB knF16 ((2, 0, ⟨#[99]⟩) : Pay) .nil))), (999, .tabs)] w0 a w)
    (hQ : ∀ a' w', Hold 210 [(8, .val (.int .i64 (keysR knF7).2)), (10, .val (.int .i64 (keysR knF9).2)), (12, .val (.int .i64 (sortR knF11).2)), (14, .val (.int .i64 (stableR knF13).2)), (15, .row knF15), (16, .val (.int .i64 (sortR .nil).2)), (17, .val (.int .i64 (rankI .nil ((2, 0, ⟨#[100]⟩) : Pay) .nil))), (18, .val (.bool (rankB .nil ((2, 0, ⟨#[100]⟩) : Pay) .nil))), (19, .val (.int .i64 (rankI knF16 ((2, 0, ⟨#[99]⟩) : Pay) .nil))), (20, .val (.bool (rankB knF16 ((2, 0, ⟨#[99]⟩) : Pay) .nil))), (21, .val (.int .i64 (rankI knF17 ((2, 0, ⟨#[98]⟩) : Pay) .nil))), (22, .val (.bool (rankB knF17 ((2, 0, ⟨#[98]⟩) : Pay) .nil))), (999, .tabs)] w0 a' w' → Q .normal a' w') : (Code.region 23 kn23Ops false).wp Tryd.prog Q a w := by
  refine region_seq (w0 := w) 11 (by kernel_rfl) ?_
  rw [show List.range 11 = [0, 1, 2, 3, 4, 5, 6, 7, 8, 9, 10] from rfl]
  refine env_one (i := 0) (d := 141) (k := .term ((2, 0, ⟨#[97]⟩) : Pay) .nil) (step_a (by kernel_rfl) (Opd.const _) rfl) (by kernel_rfl) (by decide) h ?_
  clear h
  intro a w h
  refine env_one (i := 1) (d := 142) (k := .term ((2, 0, ⟨#[98]⟩) : Pay) .nil) (step_a (by kernel_rfl) (Opd.const _) rfl) (by kernel_rfl) (by decide) h ?_
  clear h
  intro a w h
  refine env_one (i := 2) (d := 143) (k := .term ((2, 0, ⟨#[99]⟩) : Pay) .nil) (step_a (by kernel_rfl) (Opd.const _) rfl) (by kernel_rfl) (by decide) h ?_
  clear h
  intro a w h
  refine env_one (i := 3) (d := 144) (k := .row knF17) (step_slice3 (by kernel_rfl) (Opd.of_base 141 rfl) (Opd.of_base 142 rfl) (Opd.of_base 143 rfl) rfl) (by kernel_rfl) (by decide) h ?_
  clear h
  intro a w h
  refine env_one (i := 4) (d := 145) (k := .term ((2, 0, ⟨#[98]⟩) : Pay) .nil) (step_a (by kernel_rfl) (Opd.const _) rfl) (by kernel_rfl) (by decide) h ?_
  clear h
  intro a w h
  refine env_one (i := 5) (d := 146) (k := .val (.tuple #[.int .i64 (rankI knF17 ((2, 0, ⟨#[98]⟩) : Pay) .nil), .bool (rankB knF17 ((2, 0, ⟨#[98]⟩) : Pay) .nil)])) (step_orank (by decide) 999 (by kernel_rfl) (Opd.of_base 144 rfl) (Opd.of_base 145 rfl) (Opd.of_base 999 rfl) rfl) (by kernel_rfl) (by decide) h ?_
  clear h
  intro a w h
  refine env_one (i := 6) (d := 140) (k := .val (.tuple #[.int .i64 (rankI knF17 ((2, 0, ⟨#[98]⟩) : Pay) .nil), .bool (rankB knF17 ((2, 0, ⟨#[98]⟩) : Pay) .nil)])) (step_move (by kernel_rfl) (Opd.of_base 146 rfl) rfl) (by kernel_rfl) (by decide) h ?_
  clear h
  intro a w h
  refine env_one (i := 7) (d := 147) (k := .val (.int .i64 (rankI knF17 ((2, 0, ⟨#[98]⟩) : Pay) .nil))) (step_two0 (by kernel_rfl) (Opd.of_base 140 rfl) rfl) (by kernel_rfl) (by decide) h ?_
  clear h
  intro a w h
  refine env_one (i := 8) (d := 148) (k := .val (.bool (rankB knF17 ((2, 0, ⟨#[98]⟩) : Pay) .nil))) (step_two1 (by kernel_rfl) (Opd.of_base 140 rfl) rfl) (by kernel_rfl) (by decide) h ?_
  clear h
  intro a w h
  refine env_one (i := 9) (d := 21) (k := .val (.int .i64 (rankI knF17 ((2, 0, ⟨#[98]⟩) : Pay) .nil))) (step_assign (by kernel_rfl) (Opd.of_base 147 rfl) rfl) (by kernel_rfl) (by decide) h ?_
  clear h
  intro a w h
  refine env_one (i := 10) (d := 22) (k := .val (.bool (rankB knF17 ((2, 0, ⟨#[98]⟩) : Pay) .nil))) (step_assign (by kernel_rfl) (Opd.of_base 148 rfl) rfl) (by kernel_rfl) (by decide) h ?_
  clear h
  intro a w h
  exact hQ a w (h.keep [8, 10, 12, 14, 15, 16, 17, 18, 19, 20, 21, 22, 999])
theorem kn24_region {Q : Exit → Act → World → Prop}   {w0 : World} {a : Act} {w : World} (h : Hold 210 [(8, .val (.int .i64 (keysR knF7).2)), (10, .val (.int .i64 (keysR knF9).2)), (12, .val (.int .i64 (sortR knF11).2)), (14, .val (.int .i64 (stableR knF13).2)), (15, .row knF15), (16, .val (.int .i64 (sortR .nil).2)), (17, .val (.int .i64 (rankI .nil ((2, 0, ⟨#[100]⟩) : Pay) .nil))), (18, .val (.bool false)), (19, .val (.int .i64 (rankI knF16 ((2, 0, ⟨#[99]⟩) : Pay) .nil))), (20, .val (.bool false)), (21, .val (.int .i64 (rankI knF17 ((2, 0, ⟨#[98]⟩) : Pay) .nil))), (22, .val (.bool true)), (999, .tabs)] w0 a w)
    (hQ : ∀ a' w', Hold 210 [(0, .val (.bool true))] w0 a' w' → Q .normal a' w') : (Code.region 24 kn24Ops false).wp Tryd.prog Q a w := by
  refine region_seq (w0 := w) 62 (by kernel_rfl) ?_
  rw [show List.range 62 = [0, 1, 2, 3, 4, 5, 6, 7, 8, 9, 10, 11, 12, 13, 14, 15, 16, 17, 18, 19, 20, 21, 22, 23, 24, 25, 26, 27, 28, 29, 30, 31, 32, 33, 34, 35, 36, 37, 38, 39, 40, 41, 42, 43, 44, 45, 46, 47, 48, 49, 50, 51, 52, 53, 54, 55, 56, 57, 58, 59, 60, 61] from rfl]
  refine env_one (i := 0) (d := 149) (k := .val (.int .i64 (keysR knF7).2)) (step_move (by kernel_rfl) (Opd.of_base 8 rfl) rfl) (by kernel_rfl) (by decide) h ?_
  clear h
  intro a w h
  refine env_one (i := 1) (d := 150) (k := .val (.bool true)) (step_eqb_err (m := (keysR knF7).2) (n := 3) (by kernel_rfl) (Opd.of_base 149 rfl) (Opd.const _) (by kernel_rfl) rfl) (by kernel_rfl) (by decide) h ?_
  clear h
  intro a w h
  refine env_one (i := 2) (d := 151) (k := .val (.bool true)) (step_move (by kernel_rfl) (Opd.of_base 150 rfl) rfl) (by kernel_rfl) (by decide) h ?_
  clear h
  intro a w h
  refine env_guard (i := 3) (d := 152) (g := 2) (dg := 151) (b := true) (k := .val (.int .i64 (keysR knF9).2)) (step_move (by kernel_rfl) (Opd.of_base 10 rfl) rfl) (by kernel_rfl) (by decide) (by kernel_rfl) (by decide) rfl h ?_
  clear h
  intro a w h
  refine env_guard (i := 4) (d := 153) (g := 2) (dg := 151) (b := true) (k := .val (.bool true)) (step_eqb_err (m := (keysR knF9).2) (n := 1) (by kernel_rfl) (Opd.of_base 152 rfl) (Opd.const _) (by kernel_rfl) rfl) (by kernel_rfl) (by decide) (by kernel_rfl) (by decide) rfl h ?_
  clear h
  intro a w h
  refine env_one (i := 5) (d := 154) (k := .val (.bool true)) (step_pick_yes (y := .const (.bool false)) (by kernel_rfl) (Opd.of_base 151 rfl) (Opd.of_base 153 rfl) rfl) (by kernel_rfl) (by decide) h ?_
  clear h
  intro a w h
  refine env_one (i := 6) (d := 155) (k := .val (.bool true)) (step_move (by kernel_rfl) (Opd.of_base 154 rfl) rfl) (by kernel_rfl) (by decide) h ?_
  clear h
  intro a w h
  refine env_guard (i := 7) (d := 156) (g := 6) (dg := 155) (b := true) (k := .val (.int .i64 (sortR knF11).2)) (step_move (by kernel_rfl) (Opd.of_base 12 rfl) rfl) (by kernel_rfl) (by decide) (by kernel_rfl) (by decide) rfl h ?_
  clear h
  intro a w h
  refine env_guard (i := 8) (d := 157) (g := 6) (dg := 155) (b := true) (k := .val (.bool true)) (step_eqb_err (m := (sortR knF11).2) (n := 1) (by kernel_rfl) (Opd.of_base 156 rfl) (Opd.const _) (by kernel_rfl) rfl) (by kernel_rfl) (by decide) (by kernel_rfl) (by decide) rfl h ?_
  clear h
  intro a w h
  refine env_one (i := 9) (d := 158) (k := .val (.bool true)) (step_pick_yes (y := .const (.bool false)) (by kernel_rfl) (Opd.of_base 155 rfl) (Opd.of_base 157 rfl) rfl) (by kernel_rfl) (by decide) h ?_
  clear h
  intro a w h
  refine env_one (i := 10) (d := 159) (k := .val (.bool true)) (step_move (by kernel_rfl) (Opd.of_base 158 rfl) rfl) (by kernel_rfl) (by decide) h ?_
  clear h
  intro a w h
  refine env_guard (i := 11) (d := 160) (g := 10) (dg := 159) (b := true) (k := .val (.int .i64 (stableR knF13).2)) (step_move (by kernel_rfl) (Opd.of_base 14 rfl) rfl) (by kernel_rfl) (by decide) (by kernel_rfl) (by decide) rfl h ?_
  clear h
  intro a w h
  refine env_guard (i := 12) (d := 161) (g := 10) (dg := 159) (b := true) (k := .val (.bool true)) (step_eqb_err (m := (stableR knF13).2) (n := 1) (by kernel_rfl) (Opd.of_base 160 rfl) (Opd.const _) (by kernel_rfl) rfl) (by kernel_rfl) (by decide) (by kernel_rfl) (by decide) rfl h ?_
  clear h
  intro a w h
  refine env_one (i := 13) (d := 162) (k := .val (.bool true)) (step_pick_yes (y := .const (.bool false)) (by kernel_rfl) (Opd.of_base 159 rfl) (Opd.of_base 161 rfl) rfl) (by kernel_rfl) (by decide) h ?_
  clear h
  intro a w h
  refine env_one (i := 14) (d := 163) (k := .val (.bool true)) (step_move (by kernel_rfl) (Opd.of_base 162 rfl) rfl) (by kernel_rfl) (by decide) h ?_
  clear h
  intro a w h
  refine env_guard (i := 15) (d := 164) (g := 14) (dg := 163) (b := true) (k := .val (.int .i64 (sortR .nil).2)) (step_move (by kernel_rfl) (Opd.of_base 16 rfl) rfl) (by kernel_rfl) (by decide) (by kernel_rfl) (by decide) rfl h ?_
  clear h
  intro a w h
  refine env_guard (i := 16) (d := 165) (g := 14) (dg := 163) (b := true) (k := .val (.bool true)) (step_eqb_err (m := (sortR .nil).2) (n := 0) (by kernel_rfl) (Opd.of_base 164 rfl) (Opd.const _) (by kernel_rfl) rfl) (by kernel_rfl) (by decide) (by kernel_rfl) (by decide) rfl h ?_
  clear h
  intro a w h
  refine env_one (i := 17) (d := 166) (k := .val (.bool true)) (step_pick_yes (y := .const (.bool false)) (by kernel_rfl) (Opd.of_base 163 rfl) (Opd.of_base 165 rfl) rfl) (by kernel_rfl) (by decide) h ?_
  clear h
  intro a w h
  refine env_one (i := 18) (d := 167) (k := .val (.bool true)) (step_move (by kernel_rfl) (Opd.of_base 166 rfl) rfl) (by kernel_rfl) (by decide) h ?_
  clear h
  intro a w h
  refine env_guard (i := 19) (d := 168) (g := 18) (dg := 167) (b := true) (k := .row knF15) (step_move (by kernel_rfl) (Opd.of_base 15 rfl) rfl) (by kernel_rfl) (by decide) (by kernel_rfl) (by decide) rfl h ?_
  clear h
  intro a w h
  refine env_guard (i := 20) (d := 169) (g := 18) (dg := 167) (b := true) (k := .val (.int .i64 ((Tm.len knF15 : Nat) : Int))) (step_len_row (by kernel_rfl) (Opd.of_base 168 rfl) rfl) (by kernel_rfl) (by decide) (by kernel_rfl) (by decide) rfl h ?_
  clear h
  intro a w h
  refine env_guard (i := 21) (d := 170) (g := 18) (dg := 167) (b := true) (k := .val (.bool true)) (step_eqb_int (m := ((Tm.len knF15 : Nat) : Int)) (n := 0) (by kernel_rfl) (Opd.of_base 169 rfl) (Opd.const _) (by kernel_rfl) rfl) (by kernel_rfl) (by decide) (by kernel_rfl) (by decide) rfl h ?_
  clear h
  intro a w h
  refine env_one (i := 22) (d := 171) (k := .val (.bool true)) (step_pick_yes (y := .const (.bool false)) (by kernel_rfl) (Opd.of_base 167 rfl) (Opd.of_base 170 rfl) rfl) (by kernel_rfl) (by decide) h ?_
  clear h
  intro a w h
  refine env_one (i := 23) (d := 172) (k := .val (.bool true)) (step_move (by kernel_rfl) (Opd.of_base 171 rfl) rfl) (by kernel_rfl) (by decide) h ?_
  clear h
  intro a w h
  refine env_guard (i := 24) (d := 173) (g := 23) (dg := 172) (b := true) (k := .val (.int .i64 (rankI .nil ((2, 0, ⟨#[100]⟩) : Pay) .nil))) (step_move (by kernel_rfl) (Opd.of_base 17 rfl) rfl) (by kernel_rfl) (by decide) (by kernel_rfl) (by decide) rfl h ?_
  clear h
  intro a w h
  refine env_guard (i := 25) (d := 174) (g := 23) (dg := 172) (b := true) (k := .val (.bool true)) (step_eqb_int (m := (rankI .nil ((2, 0, ⟨#[100]⟩) : Pay) .nil)) (n := 0) (by kernel_rfl) (Opd.of_base 173 rfl) (Opd.const _) (by kernel_rfl) rfl) (by kernel_rfl) (by decide) (by kernel_rfl) (by decide) rfl h ?_
  clear h
  intro a w h
  refine env_one (i := 26) (d := 175) (k := .val (.bool true)) (step_pick_yes (y := .const (.bool false)) (by kernel_rfl) (Opd.of_base 172 rfl) (Opd.of_base 174 rfl) rfl) (by kernel_rfl) (by decide) h ?_
  clear h
  intro a w h
  refine env_one (i := 27) (d := 176) (k := .val (.bool true)) (step_move (by kernel_rfl) (Opd.of_base 175 rfl) rfl) (by kernel_rfl) (by decide) h ?_
  clear h
  intro a w h
  refine env_guard (i := 28) (d := 177) (g := 27) (dg := 176) (b := true) (k := .val (.bool false)) (step_move (by kernel_rfl) (Opd.of_base 18 rfl) rfl) (by kernel_rfl) (by decide) (by kernel_rfl) (by decide) rfl h ?_
  clear h
  intro a w h
  refine env_guard (i := 29) (d := 178) (g := 27) (dg := 176) (b := true) (k := .val (.bool true)) (step_not (by kernel_rfl) (Opd.of_base 177 rfl) rfl) (by kernel_rfl) (by decide) (by kernel_rfl) (by decide) rfl h ?_
  clear h
  intro a w h
  refine env_one (i := 30) (d := 179) (k := .val (.bool true)) (step_pick_yes (y := .const (.bool false)) (by kernel_rfl) (Opd.of_base 176 rfl) (Opd.of_base 178 rfl) rfl) (by kernel_rfl) (by decide) h ?_
  clear h
  intro a w h
  refine env_one (i := 31) (d := 180) (k := .val (.bool true)) (step_move (by kernel_rfl) (Opd.of_base 179 rfl) rfl) (by kernel_rfl) (by decide) h ?_
  clear h
  intro a w h
  refine env_guard (i := 32) (d := 181) (g := 31) (dg := 180) (b := true) (k := .val (.int .i64 (rankI knF16 ((2, 0, ⟨#[99]⟩) : Pay) .nil))) (step_move (by kernel_rfl) (Opd.of_base 19 rfl) rfl) (by kernel_rfl) (by decide) (by kernel_rfl) (by decide) rfl h ?_
  clear h
  intro a w h
  refine env_guard (i := 33) (d := 182) (g := 31) (dg := 180) (b := true) (k := .val (.bool true)) (step_eqb_int (m := (rankI knF16 ((2, 0, ⟨#[99]⟩) : Pay) .nil)) (n := 0) (by kernel_rfl) (Opd.of_base 181 rfl) (Opd.const _) (by kernel_rfl) rfl) (by kernel_rfl) (by decide) (by kernel_rfl) (by decide) rfl h ?_
  clear h
  intro a w h
  refine env_one (i := 34) (d := 183) (k := .val (.bool true)) (step_pick_yes (y := .const (.bool false)) (by kernel_rfl) (Opd.of_base 180 rfl) (Opd.of_base 182 rfl) rfl) (by kernel_rfl) (by decide) h ?_
  clear h
  intro a w h
  refine env_one (i := 35) (d := 184) (k := .val (.bool true)) (step_move (by kernel_rfl) (Opd.of_base 183 rfl) rfl) (by kernel_rfl) (by decide) h ?_
  clear h
  intro a w h
  refine env_guard (i := 36) (d := 185) (g := 35) (dg := 184) (b := true) (k := .val (.bool false)) (step_move (by kernel_rfl) (Opd.of_base 20 rfl) rfl) (by kernel_rfl) (by decide) (by kernel_rfl) (by decide) rfl h ?_
  clear h
  intro a w h
  refine env_guard (i := 37) (d := 186) (g := 35) (dg := 184) (b := true) (k := .val (.bool true)) (step_not (by kernel_rfl) (Opd.of_base 185 rfl) rfl) (by kernel_rfl) (by decide) (by kernel_rfl) (by decide) rfl h ?_
  clear h
  intro a w h
  refine env_one (i := 38) (d := 187) (k := .val (.bool true)) (step_pick_yes (y := .const (.bool false)) (by kernel_rfl) (Opd.of_base 184 rfl) (Opd.of_base 186 rfl) rfl) (by kernel_rfl) (by decide) h ?_
  clear h
  intro a w h
  refine env_one (i := 39) (d := 188) (k := .val (.bool true)) (step_move (by kernel_rfl) (Opd.of_base 187 rfl) rfl) (by kernel_rfl) (by decide) h ?_
  clear h
  intro a w h
  refine env_guard (i := 40) (d := 189) (g := 39) (dg := 188) (b := true) (k := .val (.int .i64 (rankI knF17 ((2, 0, ⟨#[98]⟩) : Pay) .nil))) (step_move (by kernel_rfl) (Opd.of_base 21 rfl) rfl) (by kernel_rfl) (by decide) (by kernel_rfl) (by decide) rfl h ?_
  clear h
  intro a w h
  refine env_guard (i := 41) (d := 190) (g := 39) (dg := 188) (b := true) (k := .val (.bool true)) (step_eqb_int (m := (rankI knF17 ((2, 0, ⟨#[98]⟩) : Pay) .nil)) (n := 1) (by kernel_rfl) (Opd.of_base 189 rfl) (Opd.const _) (by kernel_rfl) rfl) (by kernel_rfl) (by decide) (by kernel_rfl) (by decide) rfl h ?_
  clear h
  intro a w h
  refine env_one (i := 42) (d := 191) (k := .val (.bool true)) (step_pick_yes (y := .const (.bool false)) (by kernel_rfl) (Opd.of_base 188 rfl) (Opd.of_base 190 rfl) rfl) (by kernel_rfl) (by decide) h ?_
  clear h
  intro a w h
  refine env_one (i := 43) (d := 192) (k := .val (.bool true)) (step_move (by kernel_rfl) (Opd.of_base 191 rfl) rfl) (by kernel_rfl) (by decide) h ?_
  clear h
  intro a w h
  refine env_guard (i := 44) (d := 193) (g := 43) (dg := 192) (b := true) (k := .val (.bool true)) (step_move (by kernel_rfl) (Opd.of_base 22 rfl) rfl) (by kernel_rfl) (by decide) (by kernel_rfl) (by decide) rfl h ?_
  clear h
  intro a w h
  refine env_one (i := 45) (d := 194) (k := .val (.bool true)) (step_pick_yes (y := .const (.bool false)) (by kernel_rfl) (Opd.of_base 192 rfl) (Opd.of_base 193 rfl) rfl) (by kernel_rfl) (by decide) h ?_
  clear h
  intro a w h
  refine env_one (i := 46) (d := 195) (k := .val (.bool true)) (step_move (by kernel_rfl) (Opd.of_base 194 rfl) rfl) (by kernel_rfl) (by decide) h ?_
  clear h
  intro a w h
  refine env_guard (i := 47) (d := 196) (g := 46) (dg := 195) (b := true) (k := .term ((0, (-1), ByteArray.empty) : Pay) .nil) (step_x (by kernel_rfl) (Opd.const _) rfl) (by kernel_rfl) (by decide) (by kernel_rfl) (by decide) rfl h ?_
  clear h
  intro a w h
  refine env_guard (i := 48) (d := 197) (g := 46) (dg := 195) (b := true) (k := .term ((2, 0, ⟨#[97]⟩) : Pay) .nil) (step_a (by kernel_rfl) (Opd.const _) rfl) (by kernel_rfl) (by decide) (by kernel_rfl) (by decide) rfl h ?_
  clear h
  intro a w h
  refine env_guard (i := 49) (d := 198) (g := 46) (dg := 195) (b := true) (k := .val (.int .i64 (Tm.cmpV ((0, (-1), ByteArray.empty) : Pay) .nil ((2, 0, ⟨#[97]⟩) : Pay) .nil))) (step_ocmp 999 (by kernel_rfl) (Opd.of_base 196 rfl) (Opd.of_base 197 rfl) (Opd.of_base 999 rfl) rfl) (by kernel_rfl) (by decide) (by kernel_rfl) (by decide) rfl h ?_
  clear h
  intro a w h
  refine env_guard (i := 50) (d := 199) (g := 46) (dg := 195) (b := true) (k := .val (.bool true)) (step_eqb_int (m := (Tm.cmpV ((0, (-1), ByteArray.empty) : Pay) .nil ((2, 0, ⟨#[97]⟩) : Pay) .nil)) (n := 0) (by kernel_rfl) (Opd.of_base 198 rfl) (Opd.const _) (by kernel_rfl) rfl) (by kernel_rfl) (by decide) (by kernel_rfl) (by decide) rfl h ?_
  clear h
  intro a w h
  refine env_one (i := 51) (d := 200) (k := .val (.bool true)) (step_pick_yes (y := .const (.bool false)) (by kernel_rfl) (Opd.of_base 195 rfl) (Opd.of_base 199 rfl) rfl) (by kernel_rfl) (by decide) h ?_
  clear h
  intro a w h
  refine env_one (i := 52) (d := 201) (k := .val (.bool true)) (step_move (by kernel_rfl) (Opd.of_base 200 rfl) rfl) (by kernel_rfl) (by decide) h ?_
  clear h
  intro a w h
  refine env_guard (i := 53) (d := 202) (g := 52) (dg := 201) (b := true) (k := .term ((0, (-1), ByteArray.empty) : Pay) .nil) (step_x (by kernel_rfl) (Opd.const _) rfl) (by kernel_rfl) (by decide) (by kernel_rfl) (by decide) rfl h ?_
  clear h
  intro a w h
  refine env_guard (i := 54) (d := 203) (g := 52) (dg := 201) (b := true) (k := .term ((0, (-1), ByteArray.empty) : Pay) .nil) (step_x (by kernel_rfl) (Opd.const _) rfl) (by kernel_rfl) (by decide) (by kernel_rfl) (by decide) rfl h ?_
  clear h
  intro a w h
  refine env_guard (i := 55) (d := 204) (g := 52) (dg := 201) (b := true) (k := .val (.int .i64 (Tm.cmpV ((0, (-1), ByteArray.empty) : Pay) .nil ((0, (-1), ByteArray.empty) : Pay) .nil))) (step_ocmp 999 (by kernel_rfl) (Opd.of_base 202 rfl) (Opd.of_base 203 rfl) (Opd.of_base 999 rfl) rfl) (by kernel_rfl) (by decide) (by kernel_rfl) (by decide) rfl h ?_
  clear h
  intro a w h
  refine env_guard (i := 56) (d := 205) (g := 52) (dg := 201) (b := true) (k := .val (.bool true)) (step_eqb_int (m := (Tm.cmpV ((0, (-1), ByteArray.empty) : Pay) .nil ((0, (-1), ByteArray.empty) : Pay) .nil)) (n := 0) (by kernel_rfl) (Opd.of_base 204 rfl) (Opd.const _) (by kernel_rfl) rfl) (by kernel_rfl) (by decide) (by kernel_rfl) (by decide) rfl h ?_
  clear h
  intro a w h
  refine env_one (i := 57) (d := 206) (k := .val (.bool true)) (step_pick_yes (y := .const (.bool false)) (by kernel_rfl) (Opd.of_base 201 rfl) (Opd.of_base 205 rfl) rfl) (by kernel_rfl) (by decide) h ?_
  clear h
  intro a w h
  refine env_one (i := 58) (d := 207) (k := .val (.bool true)) (step_move (by kernel_rfl) (Opd.of_base 206 rfl) rfl) (by kernel_rfl) (by decide) h ?_
  clear h
  intro a w h
  refine env_guard (i := 59) (d := 208) (g := 58) (dg := 207) (b := true) (k := .val (.bool true)) (step_awake 999 (by kernel_rfl) (Opd.of_base 999 rfl) rfl) (by kernel_rfl) (by decide) (by kernel_rfl) (by decide) rfl h ?_
  clear h
  intro a w h
  refine env_one (i := 60) (d := 209) (k := .val (.bool true)) (step_pick_yes (y := .const (.bool false)) (by kernel_rfl) (Opd.of_base 207 rfl) (Opd.of_base 208 rfl) rfl) (by kernel_rfl) (by decide) h ?_
  clear h
  intro a w h
  refine env_one (i := 61) (d := 0) (k := .val (.bool true)) (step_assign (by kernel_rfl) (Opd.of_base 209 rfl) rfl) (by kernel_rfl) (by decide) h ?_
  clear h
  intro a w h
  exact hQ a w (h.keep [0])

theorem law_known (w : World) (hT : Tabs w) : Calls Tryd.prog 11 #[] w fun e w' => e = .returned (.bool true) ∧ Below w.heap.size w w' := by
  refine calls_of_wp Tryd.func11 kn_body ?_
  have hsN : ((#[] : Array Value) ++ Array.replicate (Tryd.f11.ntmps - (#[] : Array Value).size) undef : Array Value).size = 210 := by kernel_rfl
  generalize ((#[] : Array Value) ++ Array.replicate (Tryd.f11.ntmps - (#[] : Array Value).size) undef : Array Value) = tm at hsN  ⊢
  refine wp_seq ?_
  refine kn0_region (w0 := w) ⟨hsN, rfl, Below.refl _ _, (slots_cons 999 (k0 := .tabs) hT slots_nil)⟩ ?_
  intro a w1 h
  show Code.wp _ _ _ a w1
  refine wp_seq ?_
  refine kn1_region h ?_
  intro a w1 h
  show Code.wp _ _ _ a w1
  refine wp_seq ?_
  refine kn2_region h ?_
  intro a w1 h
  show Code.wp _ _ _ a w1
  refine wp_seq ?_
  refine wp_seq ?_
  refine kn3_region h ?_
  intro a w1 h
  show Code.wp _ _ _ a w1
  refine wp_block ?_
  refine wp_for (n := 22) (fun ii a w1 => Hold 210 [(3, .row knF5), (4, .val (.int .i64 ((ii : Nat) : Int))), (999, .tabs)] w a w1) h ?_ ?_
  · intro ii a w1 hi h
    refine wp_seq ?_
    refine wp_seq ?_
    refine kn4y_region ii hi h ?_
    intro a w1 h
    refine env_cond (b := true) rfl h ?_
    refine wp_skip ?_
    have h := h.keep [3, 4, 999]
    show Code.wp _ _ _ a w1
    refine wp_seq ?_
    refine wp_block ?_
    refine wp_seq ?_
    refine kn6_region ii h ?_
    intro a w1 h
    show Code.wp _ _ _ a w1
    refine wp_block ?_
    refine wp_for (n := 22) (fun k a w1 => Hold 210 [(3, .row knF5), (4, .val (.int .i64 ((ii : Nat) : Int))), (5, .val (.int .i64 ((k : Nat) : Int))), (999, .tabs)] w a w1) h ?_ ?_
    · intro k a w1 hk h
      refine wp_seq ?_
      refine wp_seq ?_
      refine kn7y_region ii k hk h ?_
      intro a w1 h
      refine env_cond (b := true) rfl h ?_
      refine wp_skip ?_
      have h := h.keep [3, 4, 5, 999]
      obtain ⟨p1, l1, r1, d1⟩ := Tm.drop_at (F := knF5) (k := ii) (by rw [kn_len]; exact hi)
      obtain ⟨p2, l2, r2, d2⟩ := Tm.drop_at (F := knF5) (k := k) (by rw [kn_len]; exact hk)
      have hc : Tm.cmpV p1 l1 p2 l2 = wantI ii k := by
        have := kn_cmp ii hi k hk
        rw [toL_get d1, toL_get d2] at this
        exact this
      have d1' := d1
      show Code.wp _ _ _ a w1
      refine wp_seq ?_
      refine wp_block ?_
      refine wp_seq ?_
      refine kn9_region ii k h ?_
      intro a w1 h
      show Code.wp _ _ _ a w1
      rcases Nat.lt_trichotomy ii k with hik | hik | hik
      · have hb1 : decide (((ii : Nat) : Int) < ((k : Nat) : Int)) = true := decide_eq_true (by omega)
        have hb2 : decide (((k : Nat) : Int) < ((ii : Nat) : Int)) = false := decide_eq_false (by omega)
        have hw : wantI ii k = -1 := by unfold wantI; rw [if_pos hik]
        refine wp_seq ?_
        refine wp_seq ?_
        refine kn10_region ii k 0 h ?_
        intro a w1 h
        rw [hb1] at h
        refine env_cond (b := true) rfl h ?_
        have h := h.keep [3, 4, 5, 6, 999]
        show Code.wp _ _ _ a w1
        refine kn11_region ii k 0 h ?_
        intro a w1 h
        show Code.wp _ _ _ a w1
        refine wp_seq ?_
        refine wp_seq ?_
        refine kn12_region ii k (-1) h ?_
        intro a w1 h
        rw [hb2] at h
        refine env_cond (b := false) rfl h ?_
        have h := h.keep [3, 4, 5, 6, 999]
        refine wp_skip ?_
        show Code.wp _ _ _ a w1
        refine wp_seq ?_
        refine kn14_region ii k (-1) p1 l1 r1 p2 l2 r2 d1 d2 (by rw [hc, hw]) h ?_
        intro a w1 h
        show Code.wp _ _ _ a w1
        refine env_cond (b := false) rfl h ?_
        refine wp_skip ?_
        have h := h.keep [3, 4, 5, 999]
        show Code.wp _ _ _ a w1
        refine kn8_region ii k hk h ?_
        intro a w1 h
        exact h
      · have hb1 : decide (((ii : Nat) : Int) < ((k : Nat) : Int)) = false := decide_eq_false (by omega)
        have hb2 : decide (((k : Nat) : Int) < ((ii : Nat) : Int)) = false := decide_eq_false (by omega)
        have hw : wantI ii k = 0 := by unfold wantI; rw [if_neg (by omega), if_neg (by omega)]
        refine wp_seq ?_
        refine wp_seq ?_
        refine kn10_region ii k 0 h ?_
        intro a w1 h
        rw [hb1] at h
        refine env_cond (b := false) rfl h ?_
        have h := h.keep [3, 4, 5, 6, 999]
        refine wp_skip ?_
        show Code.wp _ _ _ a w1
        refine wp_seq ?_
        refine wp_seq ?_
        refine kn12_region ii k (0) h ?_
        intro a w1 h
        rw [hb2] at h
        refine env_cond (b := false) rfl h ?_
        have h := h.keep [3, 4, 5, 6, 999]
        refine wp_skip ?_
        show Code.wp _ _ _ a w1
        refine wp_seq ?_
        refine kn14_region ii k (0) p1 l1 r1 p2 l2 r2 d1 d2 (by rw [hc, hw]) h ?_
        intro a w1 h
        show Code.wp _ _ _ a w1
        refine env_cond (b := false) rfl h ?_
        refine wp_skip ?_
        have h := h.keep [3, 4, 5, 999]
        show Code.wp _ _ _ a w1
        refine kn8_region ii k hk h ?_
        intro a w1 h
        exact h
      · have hb1 : decide (((ii : Nat) : Int) < ((k : Nat) : Int)) = false := decide_eq_false (by omega)
        have hb2 : decide (((k : Nat) : Int) < ((ii : Nat) : Int)) = true := decide_eq_true (by omega)
        have hw : wantI ii k = 1 := by unfold wantI; rw [if_neg (by omega), if_pos hik]
        refine wp_seq ?_
        refine wp_seq ?_
        refine kn10_region ii k 0 h ?_
        intro a w1 h
        rw [hb1] at h
        refine env_cond (b := false) rfl h ?_
        have h := h.keep [3, 4, 5, 6, 999]
        refine wp_skip ?_
        show Code.wp _ _ _ a w1
        refine wp_seq ?_
        refine wp_seq ?_
        refine kn12_region ii k (0) h ?_
        intro a w1 h
        rw [hb2] at h
        refine env_cond (b := true) rfl h ?_
        have h := h.keep [3, 4, 5, 6, 999]
        show Code.wp _ _ _ a w1
        refine kn13_region ii k 0 h ?_
        intro a w1 h
        show Code.wp _ _ _ a w1
        refine wp_seq ?_
        refine kn14_region ii k (1) p1 l1 r1 p2 l2 r2 d1 d2 (by rw [hc, hw]) h ?_
        intro a w1 h
        show Code.wp _ _ _ a w1
        refine env_cond (b := false) rfl h ?_
        refine wp_skip ?_
        have h := h.keep [3, 4, 5, 999]
        show Code.wp _ _ _ a w1
        refine kn8_region ii k hk h ?_
        intro a w1 h
        exact h
    · intro a w1 h
      refine wp_seq ?_
      refine wp_seq ?_
      refine kn7n_region ii 22 (by omega) h ?_
      intro a w1 h
      refine env_cond (b := false) rfl h ?_
      refine wp_exit ?_
      have h := h.keep [3, 4, 999]
      show Code.wp _ _ _ a w1
      refine kn5_region ii hi h ?_
      intro a w1 h
      exact h
  · intro a w1 h
    refine wp_seq ?_
    refine wp_seq ?_
    refine kn4n_region 22 (by omega) h ?_
    intro a w1 h
    refine env_cond (b := false) rfl h ?_
    refine wp_exit ?_
    have h := h.keep [999]
    show Code.wp _ _ _ a w1
    refine wp_seq ?_
    refine kn16_region h ?_
    intro a w1 h
    show Code.wp _ _ _ a w1
    refine wp_seq ?_
    refine kn17_region h ?_
    intro a w1 h
    show Code.wp _ _ _ a w1
    refine wp_seq ?_
    refine kn18_region h ?_
    intro a w1 h
    show Code.wp _ _ _ a w1
    refine wp_seq ?_
    refine kn19_region h ?_
    intro a w1 h
    show Code.wp _ _ _ a w1
    refine wp_seq ?_
    refine kn20_region h ?_
    intro a w1 h
    show Code.wp _ _ _ a w1
    refine wp_seq ?_
    refine kn21_region h ?_
    intro a w1 h
    show Code.wp _ _ _ a w1
    refine wp_seq ?_
    refine kn22_region h ?_
    intro a w1 h
    show Code.wp _ _ _ a w1
    refine wp_seq ?_
    refine kn23_region h ?_
    intro a w1 h
    show Code.wp _ _ _ a w1
    refine wp_seq ?_
    refine kn24_region h ?_
    intro a w1 h
    show Code.wp _ _ _ a w1
    refine wp_ret ?_
    (try simp only [then_ret, block_ret])
    refine law_out rfl (h.get 0 rfl) h.defers ⟨rfl, h.world⟩
end Go.Proofs.YtmjlocmcgbnabaaDoor
