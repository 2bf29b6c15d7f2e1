/-
  Package balls: List.
-/
import Derived.Test.YtapcnehpechkpaaInd
import Derived.WalkMore
namespace Go.Proofs.Ytapcnehpechkpaa
set_option linter.unusedVariables false
set_option linter.unusedSimpArgs false
set_option maxRecDepth 100000
open Go.RowKit

namespace Tm
/-- The elements of a list, and its tail. -/
def elemsOf : Pay → Fo → Fo × Pay × Fo
  | p, .node p0 l0 (.node p1 l1 .nil) => if p.1 = 3 ∧ p.2.2 = ⟨#[46]⟩ then (.node p0 l0 (elemsOf p1 l1).1, (elemsOf p1 l1).2) else (.nil, p, .node p0 l0 (.node p1 l1 .nil))
  | p, l => (.nil, p, l)
def elemsFn (p : Pay) (l : Fo) : Fo × Pay × Fo := if validB p l then elemsOf p l else (.nil, zp, .nil)
theorem elemsOf_cons {p : Pay} (p0 : Pay) (l0 : Fo) (p1 : Pay) (l1 : Fo) (h : p.1 = 3) (hn : p.2.2 = ⟨#[46]⟩) : elemsOf p (.node p0 l0 (.node p1 l1 .nil)) = (.node p0 l0 (elemsOf p1 l1).1, (elemsOf p1 l1).2) := by
  have e : elemsOf p (.node p0 l0 (.node p1 l1 .nil)) = if p.1 = 3 ∧ p.2.2 = (⟨#[46]⟩ : ByteArray) then (.node p0 l0 (elemsOf p1 l1).1, (elemsOf p1 l1).2) else (.nil, p, .node p0 l0 (.node p1 l1 .nil)) := rfl
  rw [e, if_pos ⟨h, hn⟩]
theorem elemsOf_end {p : Pay} {l : Fo} (h : ¬ (p.1 = 3 ∧ p.2.2 = ⟨#[46]⟩ ∧ len l = 2)) : elemsOf p l = (.nil, p, l) := by
  match l with
  | .nil => rfl
  | .node _ _ .nil => rfl
  | .node p0 l0 (.node p1 l1 .nil) =>
    unfold elemsOf
    rw [if_neg fun hh => h ⟨hh.1, hh.2, rfl⟩]
  | .node _ _ (.node _ _ (.node _ _ _)) => rfl
theorem len_two {l : Fo} (h : len l = 2) : ∃ p0 l0 p1 l1, l = .node p0 l0 (.node p1 l1 .nil) := by
  match l with
  | .nil => cases h
  | .node _ _ .nil => cases h
  | .node p0 l0 (.node p1 l1 .nil) => exact ⟨p0, l0, p1, l1, rfl⟩
  | .node _ _ (.node _ _ (.node _ _ _)) => simp only [len] at h; omega
end Tm
theorem toList_empty (s : ByteArray) : (s.toList == [91, 93]) = decide (s = ⟨#[91, 93]⟩) := by
  have h := eqb_toList s ⟨#[91, 93]⟩
  rw [show (⟨#[91, 93]⟩ : ByteArray).toList = [91, 93] by rw [ByteArray.toList_eq]] at h
  exact h
namespace Bl
def listOf (q : Fo × Pay × Fo) (p : Pay) (l : Fo) : Fo × (Pay × Fo) × Bool :=
  if q.2.1.1 = 0 then (.nil, inst, false) else if q.2.1.1 = 2 ∧ q.2.1.2.2 = ⟨#[91, 93]⟩ then (q.1, (zp, .nil), true) else (.nil, ty ⟨#[108, 105, 115, 116]⟩ p l, false)
def list (p : Pay) (l : Fo) : Fo × (Pay × Fo) × Bool := if Tm.validB p l = true then listOf (Tm.elemsOf p l) p l else (.nil, (zp, .nil), false)
theorem isS_dot {p : Pay} {l : Fo} : isS p l ⟨#[46]⟩ 2 = true ↔ p.1 = 3 ∧ p.2.2 = ⟨#[46]⟩ ∧ Tm.len l = 2 := by
  unfold isS
  rw [decide_eq_true_eq]
  constructor
  · rintro ⟨h1, h2, h3⟩; exact ⟨h1, h2, by omega⟩
  · rintro ⟨h1, h2, h3⟩; exact ⟨h1, h2, by omega⟩
end Bl
theorem xcb_result {fn : Func} {s q u : Tmp} (hres : fn.results = #[.tmp s, .cell q 24, .tmp u]) (tmps : Array Value) (w : World) (r : Nat) (p : Pay) (A : Option Addr) (n c : Nat) (vs vu : Value) (hs : tmps.getD s undef = vs) (hu : tmps.getD u undef = vu) (hq : tmps.getD q undef = .pointer (some ⟨r, 0, none⟩)) (ht : TermAt w r p A n c) :
    (results fn tmps).run Try.prog w = .ok (.tuple #[vs, tv p A n c, vu]) w := by
  have hp' : tmps[q]?.getD undef = .pointer (some ⟨r, 0, none⟩) := by simpa using hq
  have hs' : tmps[s]?.getD undef = vs := by simpa using hs
  have hu' : tmps[u]?.getD undef = vu := by simpa using hu
  simp [results, hres, hp', hs', hu', asAddr, load_cellT w r p A n c ht]

set_option maxHeartbeats 4000000 in
theorem bList_any (p : Pay) (l : Fo) (A : Option Addr) (c B : Nat) (w : World) (hA : ArgsB w B A (Tm.len l) l) (hB : B ≤ w.heap.size) :
    Calls Try.prog 43 #[tv p A (Tm.len l) c] w (MkLB w.heap.size (Bl.list p l).1 (Bl.list p l).2.1.1 (Bl.list p l).2.1.2 (Bl.list p l).2.2 w) := by
  have V1 := Lib.hid fun (w1 : World) (h1 : ArgsB w1 B A (Tm.len l) l) (h2 : B ≤ w1.heap.size) => valid_any p l A c B w1 h1 h2
  have BX := Lib.hid (two_boxes w)
  cases hv : Tm.validB p l
  · rw [hv] at V1
    have eo : Bl.list p l = (.nil, (zp, .nil), false) := by unfold Bl.list; rw [hv]; exact if_neg (by decide)
    rw [eo]
    clear eo
    obtain ⟨n, hn⟩ : ∃ n, n = Tm.len l := ⟨_, rfl⟩
    rw [← hn] at hA V1 ⊢
    have HA := Lib.hid hA
    clear hv hA hn
    go_enter Try.func43, Try.ntmps43
    go_wp2_with fail
    go_step3
    go_wp2_with fail
    refine (V1.out _ ?_ ?_).mono ?_
    · exact HA.out.below (BX.out _ _) hB
    · simp; omega
    rintro e w1 ⟨rfl, hb1⟩
    have hsz := hb1.size
    simp at hsz
    have hr : ResAt w1 (w.heap.size + 1) := (ResAt.new (w.alloc _) 24 _ (by simp)).below hb1 (by simp)
    have hw1 : w.heap.size + 1 < w1.heap.size := by omega
    have r0 := hr.t.kind
    have r1 := hr.t.num
    have r2 := hr.t.name
    have r3 := hr.t.args
    have q0 := hr.s.s0
    have q1 := hr.s.s1
    have q2 := hr.s.s2
    have q3 := hr.s.s3
    have HB1 := Lib.hid ((BX.out _ _).trans (hb1.mono (by simp; omega)) : Below w.heap.size w w1)
    have HR := Lib.hid hr
    clear hb1 hr
    go_wp2_with fail
    have st := stored w1 (w.heap.size + 1) zp zp none none 0 0 0 0 HR.out.t HR.out.s
    try rw [Exit.noGoto_ret]
    show bodyPost _ _ _ _ _ (set4 w1 (w.heap.size + 1) 0 zp none 0 0)
    generalize set4 w1 (w.heap.size + 1) 0 zp none 0 0 = w2 at st ⊢
    refine bodyPost_ret (xcb_result (s := 2) (q := 3) (u := 4) rfl _ _ (w.heap.size + 1) zp none 0 0 (.slice none 0 0) (.bool false) rfl rfl rfl st.term) rfl ?_
    exact ⟨none, 0, none, 0, rfl, ArgsIn.nil _ _ _, ArgsIn.nil _ _ _, st.below _ _ HB1.out (by omega)⟩
  rw [hv] at V1
  have eo : Bl.list p l = Bl.listOf (Tm.elemsOf p l) p l := by unfold Bl.list; rw [hv]; exact if_pos rfl
  rw [eo]
  clear eo
  have hgood : Tm.goodB p l = true := by unfold Tm.validB at hv; rw [Bool.and_eq_true] at hv; exact hv.2
  have hsize : 1 + Tm.size l ≤ 2000 := by unfold Tm.validB at hv; rw [Bool.and_eq_true, decide_eq_true_eq] at hv; exact hv.1
  obtain ⟨q, hq⟩ : ∃ q, q = Tm.elemsOf p l := ⟨_, rfl⟩
  rw [← hq]
  have T1 := Lib.hid fun (w1 : World) (h1 : ArgsB w1 B A (Tm.len l) l) (h2 : B ≤ w1.heap.size) => bTy_any ⟨#[108, 105, 115, 116]⟩ p l A c B w1 h1 h2
  unfold Makes at T1
  obtain ⟨LT, hLT⟩ : ∃ LT, LT = Tm.len (Bl.ty ⟨#[108, 105, 115, 116]⟩ p l).2 := ⟨_, rfl⟩
  obtain ⟨QT, hQT⟩ : ∃ QT, QT = Bl.ty ⟨#[108, 105, 115, 116]⟩ p l := ⟨_, rfl⟩
  have HQT := Lib.hid hQT
  rw [← hLT, ← hQT] at T1
  rw [← hQT] at hLT
  have HLT := Lib.hid hLT
  obtain ⟨n, hn⟩ : ∃ n, n = Tm.len l := ⟨_, rfl⟩
  rw [← hn] at hA V1 T1 ⊢
  have HA := Lib.hid hA
  have HN := Lib.hid hn
  have HQ := Lib.hid hq
  have HG := Lib.hid hgood
  have HS := Lib.hid hsize
  have I1 := Lib.hid fun (w1 : World) => bInst_any w1
  unfold Makes at I1
  obtain ⟨LI, hLI⟩ : ∃ LI, LI = Tm.len Bl.inst.2 := ⟨_, rfl⟩
  obtain ⟨QI, hQI⟩ : ∃ QI, QI = Bl.inst := ⟨_, rfl⟩
  have HQI := Lib.hid hQI
  rw [← hLI, ← hQI] at I1
  rw [← hQI] at hLI
  have HLI := Lib.hid hLI
  obtain ⟨i0, hi0, hz0, hz1, hz2⟩ := term_parts
  clear hv hA hn hq hgood hsize hLT hLI hQT hQI
  go_enter Try.func43, Try.ntmps43
  go_wp2_with fail
  go_step3
  go_wp2_with fail
  refine (V1.out _ ?_ ?_).mono ?_
  · exact HA.out.below (BX.out _ _) hB
  · simp; omega
  rintro e w0 ⟨rfl, hb0⟩
  have hsz0 := hb0.size
  simp at hsz0
  have hta : TermAt w0 w.heap.size p A n c := ((TermAt.new w p A n c 24).below (B := w.heap.size + 1) ((Below.refl _ _).alloc (by simp) _) (by omega)).below hb0 (by simp; omega)
  have hres : ResAt w0 (w.heap.size + 1) := (ResAt.new (w.alloc _) 24 _ (by simp)).below hb0 (by simp)
  have HT0 := Lib.hid hta
  have HR0 := Lib.hid hres
  have HB0 := Lib.hid ((BX.out _ _).trans (hb0.mono (by simp; omega)) : Below w.heap.size w w0)
  have hw0 : w.heap.size + 1 < w0.heap.size := by omega
  have y0 := hta.kind
  have y1 := hta.num
  have y2 := hta.name
  have y3 := hta.args
  clear hta hres hb0 hsz0
  go_wp2_with fail
  go_step3
  go_wp2_with fail
  have hq1 : w.heap.size + 1 < w0.heap.size := by omega
  go_loopw [2] (fun u wr => ∃ (k : Nat) (vs : List Value) (acc : Fo) (Ac : Option Addr) (cc : Nat) (p1 : Pay) (l1 : Fo) (A1 : Option Addr) (c1 : Nat), u = .slice Ac k cc ∧ q = (Tm.app acc (Tm.elemsOf p1 l1).1, (Tm.elemsOf p1 l1).2) ∧ RowSt w0.heap.size wr vs acc Ac k cc ∧
    TermAt wr w0.heap.size p1 A1 (Tm.len l1) c1 ∧ SoftAt wr w0.heap.size ∧ TermAt wr w.heap.size p A n c ∧ ResAt wr (w.heap.size + 1) ∧ ArgsB wr B A1 (Tm.len l1) l1 ∧ Tm.goodB p1 l1 = true ∧ k + Tm.size l1 ≤ 2000 ∧ Below w.heap.size w wr) (fun u _ => match u with | .slice _ k _ => 3000 - k | _ => 0)
  case atStart =>
    have hrr := TermAt.new w0 p A n c 24
    have hss := SoftAt.new w0 #[.int .i64 p.1, .int .i64 p.2.1, .string p.2.2, .slice A n c] 24
    have hbn : Below w0.heap.size w0 (w0.alloc (.cells #[.int .i64 p.1, .int .i64 p.2.1, .string p.2.2, .slice A n c] 24)) := (Below.refl _ _).alloc (Nat.le_refl _) _
    have hsb := HB0.out.size
    refine ⟨0, [], .nil, none, 0, p, l, A, c, rfl, HQ.out, RowSt.start _ _ (by simp), by rw [← HN.out]; exact hrr, hss, HT0.out.below hbn (by omega), HR0.out.below hbn hw0, by rw [← HN.out]; exact (HA.out.below HB0.out hB).below hbn (by omega), HG.out, by have := HS.out; omega, HB0.out.trans (hbn.mono hsb)⟩
  case round =>
    obtain ⟨k, vs, acc, Ac, cc, p1, l1, A1, c1, rfl, hel, hrow, hta, hsa, htt, hres, hargs, hgood, hsz, hbl⟩ := hrel
    have hwr : w0.heap.size < wr.heap.size := hrow.size
    have hwr0 : w.heap.size < wr.heap.size := by omega
    have hwr1 : w.heap.size + 1 < wr.heap.size := by omega
    have x0 := hta.kind
    have x1 := hta.num
    have x2 := hta.name
    have x3 := hta.args
    have HEL := Lib.hid hel
    have HROW := Lib.hid hrow
    have HT := Lib.hid hta
    have HSA := Lib.hid hsa
    have HTT := Lib.hid htt
    have HR := Lib.hid hres
    have HAR := Lib.hid hargs
    have HGD := Lib.hid hgood
    have HB1 := Lib.hid hbl
    have C0 := Lib.hid fun (w1 : World) (h1 : ArgsB w1 B A1 (Tm.len l1) l1) (h2 : B ≤ w1.heap.size) => bIs_any p1 l1 A1 c1 ⟨#[46]⟩ 2 B w1 h1 h2
    obtain ⟨v, hv⟩ : ∃ v, v = Bl.isS p1 l1 ⟨#[46]⟩ 2 := ⟨_, rfl⟩
    rw [← hv] at C0
    have HV := Lib.hid hv
    clear hel hrow hta hsa htt hres hargs hgood hbl hv
    cases v
    · have hend := Tm.elemsOf_end (p := p1) (l := l1) (fun h => by have := HV.out; rw [Bl.isS_dot.2 h] at this; cases this)
      rw [hend] at HEL
      clear hend
      obtain ⟨n1, hn1⟩ : ∃ n1, n1 = Tm.len l1 := ⟨_, rfl⟩
      rw [← hn1] at C0 HAR x3 HT
      clear hn1
      by_cases hz : p1.1 = 0
      · have hzb : (p1.1 == 0) = true := by rw [hz]; rfl
        have eL : Bl.listOf q p l = (.nil, QI, false) := by rw [HEL.out, HQI.out]; unfold Bl.listOf; rw [if_pos hz]
        have HE := Lib.hid eL
        clear eL hz
        go_wp2_with fail
        refine (C0.out _ ?_ ?_).mono ?_
        · exact HAR.out
        · have := HB1.out.size; omega
        rintro e w2 ⟨rfl, hb2⟩
        have hw2 := hb2.size
        have hT2 : TermAt w2 w0.heap.size p1 A1 n1 c1 := HT.out.below hb2 hwr
        have hX2 : TermAt w2 w.heap.size p A n c := HTT.out.below hb2 hwr0
        have z0 := hT2.kind
        have z1 := hT2.num
        have z2 := hT2.name
        have z3 := hT2.args
        have v0 := hX2.kind
        have v1 := hX2.num
        have v2 := hX2.name
        have v3 := hX2.args
        have HR2 := Lib.hid (HR.out.below hb2 hwr1)
        have HB2 := Lib.hid (HB1.out.trans (hb2.mono (by omega)) : Below w.heap.size w w2)
        have HBR := Lib.hid hb2
        clear hb2 hT2 hX2 x0 x1 x2 x3
        go_wp2_with fail
        refine (I1.out _).mono ?_
        rintro e w3 ⟨A3, c3, rfl, ha3, hb3⟩
        have hw3 := hb3.size
        have hr : ResAt w3 (w.heap.size + 1) := HR2.out.below hb3 (by omega)
        have r0 := hr.t.kind
        have r1 := hr.t.num
        have r2 := hr.t.name
        have r3 := hr.t.args
        have q0 := hr.s.s0
        have q1 := hr.s.s1
        have q2 := hr.s.s2
        have q3 := hr.s.s3
        have HA3 := Lib.hid ha3
        have HB3 := Lib.hid (HB2.out.trans (hb3.mono (by omega)) : Below w.heap.size w w3)
        have HR3 := Lib.hid hr
        clear ha3 hb3 hr
        go_wp2_with fail
        try rw [Exit.noGoto_ret]
        have st := stored w3 (w.heap.size + 1) QI.1 zp A3 none LI c3 0 0 HR3.out.t HR3.out.s
        show bodyPost _ _ _ _ _ (set4 w3 (w.heap.size + 1) 0 QI.1 A3 LI c3)
        generalize set4 w3 (w.heap.size + 1) 0 QI.1 A3 LI c3 = w4 at st ⊢
        refine bodyPost_ret (xcb_result (s := 2) (q := 3) (u := 4) rfl _ _ (w.heap.size + 1) QI.1 A3 LI c3 (.slice none 0 0) (.bool false) rfl rfl rfl st.term) rfl ?_
        rw [HE.out]
        refine ⟨A3, c3, none, 0, ?_, ?_, ArgsIn.nil _ _ _, st.below _ _ HB3.out (by omega)⟩
        · show _ = Ending.returned (.tuple #[.slice none 0 0, tv QI.1 A3 (Tm.len QI.2) c3, .bool false])
          rw [← HLI.out]
        · show ArgsIn _ _ A3 (Tm.len QI.2) QI.2
          rw [← HLI.out]
          exact st.fresh (N := w2.heap.size) HA3.out (by omega) (by omega)
      · have hzb : (p1.1 == 0) = false := by simpa using hz
        by_cases he : p1.1 = 2 ∧ p1.2.2 = ⟨#[91, 93]⟩
        · have hkb : (p1.1 == 2) = true := by rw [he.1]; rfl
          have hnb : (p1.2.2.toList == [91, 93]) = true := by rw [toList_empty]; exact decide_eq_true he.2
          have eL : Bl.listOf q p l = (acc, (zp, .nil), true) := by rw [HEL.out]; unfold Bl.listOf; rw [if_neg hz, if_pos he, Tm.app_nil]
          have HE := Lib.hid eL
          clear eL hz he
          go_wp2_with fail
          refine (C0.out _ ?_ ?_).mono ?_
          · exact HAR.out
          · have := HB1.out.size; omega
          rintro e w2 ⟨rfl, hb2⟩
          have hw2 := hb2.size
          have hT2 : TermAt w2 w0.heap.size p1 A1 n1 c1 := HT.out.below hb2 hwr
          have hX2 : TermAt w2 w.heap.size p A n c := HTT.out.below hb2 hwr0
          have z0 := hT2.kind
          have z1 := hT2.num
          have z2 := hT2.name
          have z3 := hT2.args
          have v0 := hX2.kind
          have v1 := hX2.num
          have v2 := hX2.name
          have v3 := hX2.args
          have HR2 := Lib.hid (HR.out.below hb2 hwr1)
          have HB2 := Lib.hid (HB1.out.trans (hb2.mono (by omega)) : Below w.heap.size w w2)
          have HBR := Lib.hid hb2
          clear hb2 hT2 hX2 x0 x1 x2 x3
          have hr2 : ResAt w2 (w.heap.size + 1) := HR2.out
          have r0 := hr2.t.kind
          have r1 := hr2.t.num
          have r2 := hr2.t.name
          have r3 := hr2.t.args
          have q0 := hr2.s.s0
          have q1 := hr2.s.s1
          have q2 := hr2.s.s2
          have q3 := hr2.s.s3
          have hwl : w.heap.size + 1 < w2.heap.size := by omega
          clear hr2
          go_wp2_with fail
          try rw [Exit.noGoto_ret]
          have st := stored w2 (w.heap.size + 1) zp zp none none 0 0 0 0 HR2.out.t HR2.out.s
          show bodyPost _ _ _ _ _ (set4 w2 (w.heap.size + 1) 0 zp none 0 0)
          generalize set4 w2 (w.heap.size + 1) 0 zp none 0 0 = w4 at st ⊢
          refine bodyPost_ret (xcb_result (s := 2) (q := 3) (u := 4) rfl _ _ (w.heap.size + 1) zp none 0 0 (.slice Ac k cc) (.bool true) rfl rfl rfl st.term) rfl ?_
          rw [HE.out]
          have hlen : k = Tm.len acc := by have := (HROW.out.args (by omega)).len; omega
          have harg := ((HROW.out.below HBR.out).args (by omega)).keep (w' := w4) (fun b' hb' => st.block b' (by omega))
          refine ⟨none, 0, Ac, cc, ?_, ArgsIn.nil _ _ _, ?_, st.below _ _ HB2.out (by omega)⟩
          · show _ = Ending.returned (.tuple #[.slice Ac (Tm.len acc) cc, tv zp none 0 0, .bool true])
            rw [← hlen]
          · show ArgsIn _ _ Ac (Tm.len acc) acc
            rw [← hlen]
            exact harg.mono fun b' hb' => ⟨by omega, by rw [st.size]; exact hb'.2⟩
        · have eL : Bl.listOf q p l = (.nil, QT, false) := by rw [HEL.out, HQT.out]; unfold Bl.listOf; rw [if_neg hz, if_neg he]
          have HE := Lib.hid eL
          have hft : (p1.1 == 2) = false ∨ ((p1.1 == 2) = true ∧ (p1.2.2.toList == [91, 93]) = false) := by
            by_cases h2 : p1.1 = 2
            · exact .inr ⟨by rw [h2]; rfl, by rw [toList_empty]; exact decide_eq_false fun h3 => he ⟨h2, h3⟩⟩
            · exact .inl (by simpa using h2)
          clear eL hz he
          rcases hft with hkb | ⟨hkb, hnb⟩
          all_goals
            go_wp2_with fail
            refine (C0.out _ ?_ ?_).mono ?_
            · exact HAR.out
            · have := HB1.out.size; omega
            rintro e w2 ⟨rfl, hb2⟩
            have hw2 := hb2.size
            have hT2 : TermAt w2 w0.heap.size p1 A1 n1 c1 := HT.out.below hb2 hwr
            have hX2 : TermAt w2 w.heap.size p A n c := HTT.out.below hb2 hwr0
            have z0 := hT2.kind
            have z1 := hT2.num
            have z2 := hT2.name
            have z3 := hT2.args
            have v0 := hX2.kind
            have v1 := hX2.num
            have v2 := hX2.name
            have v3 := hX2.args
            have HR2 := Lib.hid (HR.out.below hb2 hwr1)
            have HB2 := Lib.hid (HB1.out.trans (hb2.mono (by omega)) : Below w.heap.size w w2)
            have HBR := Lib.hid hb2
            clear hb2 hT2 hX2 x0 x1 x2 x3
            go_wp2_with fail
            refine (T1.out _ ?_ ?_).mono ?_
            · exact HA.out.below HB2.out hB
            · have := HB1.out.size; omega
            rintro e w3 ⟨A3, c3, rfl, ha3, hb3⟩
            have hw3 := hb3.size
            have hr : ResAt w3 (w.heap.size + 1) := HR2.out.below hb3 (by omega)
            have r0 := hr.t.kind
            have r1 := hr.t.num
            have r2 := hr.t.name
            have r3 := hr.t.args
            have q0 := hr.s.s0
            have q1 := hr.s.s1
            have q2 := hr.s.s2
            have q3 := hr.s.s3
            have HA3 := Lib.hid ha3
            have HB3 := Lib.hid (HB2.out.trans (hb3.mono (by omega)) : Below w.heap.size w w3)
            have HR3 := Lib.hid hr
            clear ha3 hb3 hr
            go_wp2_with fail
            try rw [Exit.noGoto_ret]
            have st := stored w3 (w.heap.size + 1) QT.1 zp A3 none LT c3 0 0 HR3.out.t HR3.out.s
            show bodyPost _ _ _ _ _ (set4 w3 (w.heap.size + 1) 0 QT.1 A3 LT c3)
            generalize set4 w3 (w.heap.size + 1) 0 QT.1 A3 LT c3 = w4 at st ⊢
            refine bodyPost_ret (xcb_result (s := 2) (q := 3) (u := 4) rfl _ _ (w.heap.size + 1) QT.1 A3 LT c3 (.slice none 0 0) (.bool false) rfl rfl rfl st.term) rfl ?_
            rw [HE.out]
            refine ⟨A3, c3, none, 0, ?_, ?_, ArgsIn.nil _ _ _, st.below _ _ HB3.out (by omega)⟩
            · show _ = Ending.returned (.tuple #[.slice none 0 0, tv QT.1 A3 (Tm.len QT.2) c3, .bool false])
              rw [← HLT.out]
            · show ArgsIn _ _ A3 (Tm.len QT.2) QT.2
              rw [← HLT.out]
              exact st.fresh (N := w2.heap.size) HA3.out (by omega) (by omega)
    · obtain ⟨hk, hnm, h2⟩ := Bl.isS_dot.1 HV.out.symm
      obtain ⟨pa, la, pb, lb, rfl⟩ := Tm.len_two h2
      obtain ⟨b, o, rfl, hbB, hrw⟩ := HAR.out.row (by rw [h2]; omega)
      have hbw : b < w.heap.size := Nat.lt_of_lt_of_le hbB hB
      have HT' : Hid (TermAt wr w0.heap.size p1 (some ⟨b, o, none⟩) 2 c1) := HT
      have HAR' : Hid (ArgsB wr B (some ⟨b, o, none⟩) 2 (.node pa la (.node pb lb .nil))) := HAR
      replace x3 : wr.cell? ⟨w0.heap.size, 3, none⟩ = some (.slice (some ⟨b, o, none⟩) 2 c1) := x3
      replace C0 : Hid (∀ (w1 : World), ArgsB w1 B (some ⟨b, o, none⟩) 2 (.node pa la (.node pb lb .nil)) → B ≤ w1.heap.size → Calls Try.prog 71 #[tv p1 (some ⟨b, o, none⟩) 2 c1, .string ⟨#[46]⟩, .int .i64 2] w1 fun e w' => e = .returned (.bool true) ∧ Below w1.heap.size w1 w') := C0
      obtain ⟨y0, y1, y2, ⟨Aa, ca, y3, ha1, ha2⟩, hrest⟩ := hrw
      obtain ⟨z0, z1, z2, ⟨Ab, cb, z3, hb1, hb2⟩, -⟩ := hrest
      have HI := Lib.hid (⟨rfl, ha1, ha2⟩ : ArgsB wr B Aa (Tm.len la) la)
      have HJ := Lib.hid (⟨rfl, hb1, hb2⟩ : ArgsB wr B Ab (Tm.len lb) lb)
      have hgood := HGD.out
      have hga : Tm.goodB pa la = true := by unfold Tm.goodB at hgood; simp only [Tm.allB_cons, Bool.and_eq_true] at hgood; exact hgood.2.1
      have hgb : Tm.goodB pb lb = true := by unfold Tm.goodB at hgood; simp only [Tm.allB_cons, Bool.and_eq_true] at hgood; exact hgood.2.2.1
      have HGB := Lib.hid hgb
      have HSZ := Lib.hid (show k + 1 + Tm.size lb ≤ 2000 by simp only [Tm.size] at hsz; omega)
      have hva : Tm.cloneOf pa la = (pa, la) := by
        unfold Tm.cloneOf
        rw [if_pos]
        unfold Tm.validB
        rw [hga, Bool.and_true, decide_eq_true_eq]
        simp only [Tm.size] at hsz
        omega
      have hk9 : k ≤ 2000 := by omega
      have C1 := Lib.hid fun (w2 : World) (h2 : ArgsB w2 B Aa (Tm.len la) la) (h3 : B ≤ w2.heap.size) => clone_any pa la Aa ca B w2 h2 h3
      rw [hva] at C1
      unfold Makes at C1
      obtain ⟨na, hna⟩ : ∃ na, na = Tm.len la := ⟨_, rfl⟩
      rw [← hna] at C1 HI y3
      obtain ⟨nb, hnb2⟩ : ∃ nb, nb = Tm.len lb := ⟨_, rfl⟩
      rw [← hnb2] at HJ z3
      have HNA := Lib.hid hna
      have HNB := Lib.hid hnb2
      have HKK := Lib.hid hk
      have HNM := Lib.hid hnm
      have hne : ¬ w0.heap.size = b := by omega
      have hne' : ¬ b = w0.heap.size := by omega
      have hbwr : b < wr.heap.size := by omega
      clear hga hgb hgood hna hnb2 ha1 ha2 hb1 hb2 hk hnm h2 hsz hva HT HAR
      go_wp2_with fail
      refine (C0.out _ HAR'.out ?_).mono ?_
      · have := HB1.out.size; omega
      rintro e w2 ⟨rfl, hb2⟩
      have hw2 := hb2.size
      have hT2 : TermAt w2 w0.heap.size p1 (some ⟨b, o, none⟩) 2 c1 := HT'.out.below hb2 hwr
      have g0 := hT2.kind
      have g1 := hT2.num
      have g2 := hT2.name
      have g3 := hT2.args
      have cc2 : ∀ (j : Nat) (v : Value), wr.cell? ⟨b, j, none⟩ = some v → w2.cell? ⟨b, j, none⟩ = some v := fun j v h => (hb2.cell (p := ⟨b, j, none⟩) hbwr).trans h
      have e0 := cc2 _ _ y0
      have e1 := cc2 _ _ y1
      have e2 := cc2 _ _ y2
      have e3 := cc2 _ _ y3
      have f0 := cc2 _ _ z0
      have f1 := cc2 _ _ z1
      have f2 := cc2 _ _ z2
      have f3 := cc2 _ _ z3
      have HT2 := Lib.hid hT2
      have HB2 := Lib.hid hb2
      clear hT2 hb2 cc2 x0 x1 x2 x3 y0 y1 y2 y3 z0 z1 z2 z3
      go_wp2_with fail
      refine (C1.out _ ?_ ?_).mono ?_
      · exact HI.out.below HB2.out (by omega)
      · have := HB1.out.size; omega
      rintro e w3 ⟨A2, c2, rfl, ha2, hb3⟩
      have HA2 := Lib.hid (ha2.mono (S' := fun b => wr.heap.size ≤ b ∧ b < w3.heap.size) (fun b hb => by have := hb.1; have := hb.2; omega))
      have hw3 := hb3.size
      have hbr3 : Below wr.heap.size wr w3 := HB2.out.trans (hb3.mono hw2)
      have HB3 := Lib.hid hbr3
      have HRA := Lib.hid ((HROW.out.below hbr3).below ((Below.refl w3.heap.size w3).alloc (Nat.le_refl _) (.cells #[.int .i64 pa.1, .int .i64 pa.2.1, .string pa.2.2, .slice A2 na c2] 24)))
      clear ha2 hb3 hbr3
      go_wp2_with (refine wpList_append_lies _ rfl (.tmp 16) (.tmp 22) 22 rfl (w0.heap.size + 1) 24 i0 (tv zp none 0 0) 4 56 Try.underlying22 hi0 hz0 hz1 hz2 rfl (by decide) (.slice Ac k cc) k (tcells vs) rfl HRA.out.own ⟨w3.heap.size, 0, none⟩ 1 1 [.int .i64 pa.1, .int .i64 pa.2.1, .string pa.2.2, .slice A2 na c2] rfl rfl (news_four w3 pa A2 na c2 _) (one_four pa A2 na c2) (by decide) (by simp [maxLen]; omega) (by omega) (by simp; omega) _ rfl ?_)
      intro g cap w4 hown2 hgrow hat hlt2
      have hb6 : Below (w0.heap.size + 1) wr w4 := ((HB3.out.mono (by omega)).alloc (by omega) _).grown hgrow (by simp; omega) (fun j e => (HRA.out.own.lt j e).1)
      have hpush := RowSt.push (N := wr.heap.size) HRA.out HNA.out (fun b' hb' => (HROW.out.own.lt b' hb').2) hwr ((HA2.out.keep (fun b' hb' => Below.heap_alloc w3 _ b' hb'.2)).mono (fun b' hb' => ⟨hb'.1, by rw [World.size_alloc]; exact Nat.lt_succ_of_lt hb'.2⟩)) hown2 hgrow (by rw [World.size_alloc]; exact hat)
      have HPU := Lib.hid hpush
      have hsa2 := HSA.out.same (hb6.block w0.heap.size (by omega))
      have hta2 : TermAt w4 w0.heap.size p1 (some ⟨b, o, none⟩) 2 c1 := HT'.out.same (hb6.block w0.heap.size (by omega))
      have k0 := hta2.kind
      have k1 := hta2.num
      have k2 := hta2.name
      have k3 := hta2.args
      have cc4 : ∀ (j : Nat) (v : Value), w2.cell? ⟨b, j, none⟩ = some v → w4.cell? ⟨b, j, none⟩ = some v := fun j v h => by
        rw [cell_of_block (p := ⟨b, j, none⟩) (hb6.block b (by omega)), ← cell_of_block (p := ⟨b, j, none⟩) (HB2.out.block b hbwr)]
        exact h
      have u0 := cc4 _ _ f0
      have u1 := cc4 _ _ f1
      have u2 := cc4 _ _ f2
      have u3 := cc4 _ _ f3
      have t0 := hsa2.s0
      have t1 := hsa2.s1
      have t2 := hsa2.s2
      have t3 := hsa2.s3
      have HTA2 := Lib.hid hta2
      have HSA2 := Lib.hid hsa2
      have HB6 := Lib.hid hb6
      clear hown2 hgrow hat hb6 hpush hta2 hsa2 cc4 e0 e1 e2 e3 f0 f1 f2 f3 g0 g1 g2 g3
      go_wp2_with fail
      have st := stored w4 w0.heap.size pb p1 Ab (some ⟨b, o, none⟩) nb cb 2 c1 HTA2.out HSA2.out
      have hsize2 := HPU.out.size
      refine ⟨⟨k + 1, vs ++ [tv pa A2 na c2], Tm.app acc (.node pa la .nil), some ⟨g, 0, none⟩, cap, pb, lb, Ab, cb, rfl, ?_, HPU.out.keep (Nat.le_of_eq st.size.symm) (fun b' _ hb' => st.block b' (by omega)), by rw [← HNB.out]; exact st.term, st.soft, (HTT.out.same (HB6.out.block _ (by omega))).same (st.block _ (by omega)), (HR.out.same (HB6.out.block _ (by omega))).same (st.block _ (by omega)), ?_, HGB.out, HSZ.out, st.below _ _ (HB1.out.trans (HB6.out.mono (by omega))) (by omega)⟩, ?_⟩
      · rw [HEL.out, Tm.elemsOf_cons pa la pb lb HKK.out HNM.out, Tm.app_assoc]; rfl
      · rw [← HNB.out]
        exact (HJ.out.below HB6.out (by omega)).keep fun b' (hb' : b' < B) => st.block b' (by omega)
      · simp only []; omega
end Go.Proofs.Ytapcnehpechkpaa
